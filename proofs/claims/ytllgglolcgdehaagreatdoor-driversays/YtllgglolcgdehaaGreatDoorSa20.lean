/- What the developers' write and end do, and more. -/
import Derived.Test.YtllgglolcgdehaaGreatDoorSAb
import Derived.Deep.RegionHeld3
import Derived.Test.YtllgglolcgdehaaGreatDoorSa19
set_option linter.all false
set_option maxRecDepth 100000
set_option maxHeartbeats 16000000
namespace Go.Proofs.YtllgglolcgdehaaGreatDoor
open Go.RowKit Go.Gs Go.Maps Tryz
variable {G:World->(Nat->Option Own)->Prop}
theorem aQ6{M:SMach}{q:Nat}{x:SPipe}(h:M.pipes[q]? = some x):M.pipe q=x:=by unfold SMach.pipe;rw[h];rfl
theorem RMem.formX{w:World}{D r:Nat}{O:Nat->Option Own}{A:World->(Nat->Option Own)->Prop}{d:RD}(h:RMem w D r O A d)(h0:0<d.M.pipes.length):∃g c,d.vX=.slice (some ⟨g,0,none⟩) d.M.pipes.length c/\d.M.pipes.length<=c/\c<=9223372036854775807/\O g=some .pipes:=by obtain⟨g,c,s,h1,h2,h3,h4,h5,_⟩:=h.pipeAt (gEl h0);exact⟨g,c,h1,h2,h3,h5⟩
theorem RMem.atX{w:World}{D r:Nat}{O:Nat->Option Own}{A:World->(Nat->Option Own)->Prop}{d:RD}(h:RMem w D r O A d){g c q:Nat}{x:SPipe}(hv:d.vX=.slice (some ⟨g,0,none⟩) d.M.pipes.length c)(hx:d.M.pipes[q]? = some x):
 ∃s,d.X[q]? = some s/\ROf w O (.pipe q) s x.b/\w.cell? ⟨g,q*4,none⟩=some (sl x.b s)/\w.cell? ⟨g,q*4+1,none⟩=some (.int .i64 x.room)/\w.cell? ⟨g,q*4+2,none⟩=some (.bool x.closed)/\w.cell? ⟨g,q*4+3,none⟩=some (.bool x.shut)/\(∀j,w.frozen? ⟨g,j,none⟩=false)/\O g=some .pipes/\g<w.heap.size:=by obtain⟨g',c',s,h1,h2,h3,h4,h5,h6,h7,h8⟩:=h.pipeAt hx;rw[hv]at h1;injection h1 with e1;injection e1 with e1;injection e1 with e1;subst e1;exact⟨s,h6,h7,h8.1,h8.2.1,h8.2.2.1,h8.2.2.2.1,h8.2.2.2.2,h5,h4⟩
theorem Shape.pipes0{M:SMach}(hS:Shape M):0<M.pipes.length:=by rw[hS.xlen];obtain⟨nl,po,hnl,_,hi⟩:=hS.g.last;have:=M1 hnl (j:=0) (by rw[hi];simp);omega
theorem l9.drew{w:World}{D r:Nat}{M:SMach}(h:l9 G w D r M):l9 G w.drew D r M:=by obtain⟨O,d,h1,h2⟩:=h;exact⟨O,d,RMem.below h1 ((qI _ w).drew),h2⟩
def addO(O:Nat->Option Own)(w w':World)(o:Own)(k:Nat):Option Own:=if w.heap.size<=k/\k<w'.heap.size then some o else O k
theorem RMem.fresh{w w':World}{D r:Nat}{O:Nat->Option Own}{A:World->(Nat->Option Own)->Prop}{d:RD}(h:RMem w D r O A d)(hb:Bq w w')(o:Own):RMem w' D r (addO O w w' o) A d:=by
 refine h.grow hb (fun k hk=>by unfold addO;rw[qA (by omega)]) (fun g o' hg hge=>?_);unfold addO at hg;by_cases e:w.heap.size<=g/\g<w'.heap.size
 . exact e.2
 . rw[qA e]at hg;exact absurd (h.lo g o' hg).2 (by omega)
theorem ba8{w w':World}{O:Nat->Option Own}{o:Own}{ar:Option Addr}{cr:Nat}{b:List UInt8}(h:PB w w' ar cr b):ROf w' (addO O w w' o) o (ar,cr) b:=by
 refine⟨h.1,h.2.2,fun h0 a ha=>?_⟩;have h1:=h.2.1 a ha;have h2:a.block<w'.heap.size:=by
  obtain⟨_,ao,cap,e,_,_,h4⟩:=h.1;obtain⟨b',off,e2,hc⟩:=h4 (fun e=>h0 (qn.1 e));injection e with e1;rw[show ar=some a from ha]at e1;rw[<- e1]at e2;injection e2 with e2;subst e2;have hl:0<(b.map U).length:=by rw[qM];exact zK.2 h0
  exact bLt w' _ (hc 0 _ (gEl hl))
 unfold addO;rw[qF ⟨h1,h2⟩]
theorem bT3(D r:Nat)(O:Nat->Option Own)(d:RD)(i:Nat)(n:SNode)(p:SProc)(w:World)(h:RunM G w D r O d)(hS:Shape d.M)(hn:d.M.ns[i]? = some n)(hp:d.M.ps[i]? = some p):
 Calls prog 118 #[.pointer (some ⟨r,0,none⟩),.int .i64 i] w fun e w'=>e=.returned (.int .i64 (I5 d.M i p 0 p.out).2)/\l9 G w' D r (I5 d.M i p 0 p.out).1/\Below D w w':=by
 have hg:=hS.g;have hF:=hS.proc i n p hn hp;obtain⟨gP,cP,s,hvP,Dn,En,hgP,hOP,hs,p0,p1,p2,p3,p4,hfP,hGo,hOo,hgl,hol⟩:=h.procAt hp;obtain⟨⟨ao,co,hov,Fq,Ea⟩,hne⟩:=j5 hOo;have hx0:=Shape.pipes0 hS;obtain⟨gX,cX,hvX,Ha,Ff,hOX⟩:=h.formX hx0;have hil:i<d.M.ps.length:=(gSm hp).1;obtain⟨b0,b1,b2,b3,b4,b5,b6⟩:=K6 h.box.1;rw[hvP]at b3;rw[hov]at p2;have hov2':co<=9223372036854775807:=by unfold maxLen at Ea;exact Ea
 have HH:=qH h;have HS:=qH hS;have HN:=qH hn;have HP:=qH hp;have HSl:=qH hs;have HVX:=qH hvX;have HCX:Hid (d.M.pipes.length<=cX/\cX<=9223372036854775807):=⟨Ha,Ff⟩;have HOV:=qH hov;have HF:=qH hF;obtain⟨NL,hNL⟩:=qE p.out.length;have HNL:=qH hNL;obtain⟨NP,hNP⟩:=qE d.M.ps.length;rw[<- hNL]at p2 Fq;rw[<- hNP]at b3 hil Dn;obtain⟨RES,Ai⟩:=qE (I5 d.M i p 0 p.out);rw[<- Ai];have Dc:=qH (show RES=I5 d.M i p 0 (p.out.drop 0) by rw[Ai];rfl);clear h hS hn hp hs hvX Ha Ff hov hF hNL hNP hg hgP hOP p0 p1 p3 p4 hfP hGo hOo hgl hol hne Ea b0 b1 b2 b4 b5 b6 hx0 hvP Ai hOX;go_enter Tryz.func118,Tryz.ntmps118;go_wp2_with fail;go_loopw [23] (fun z wr=>∃k:Nat,k<=NL/\z=.int .i64 k/\Hid (Bq w wr)/\Hid (RES=I5 d.M i p k (p.out.drop k))) (fun z _=>NL-(intOf z).toNat)
 case atStart=>exact⟨0,qP _,rfl,qI _ _,Dc⟩
 case round=>
  obtain⟨k,hk,rfl,Aa,Iz⟩:=hrel;clear Dc;by_cases hlt:k<NL
  .
   obtain⟨b,hb⟩:∃b,p.out[k]? = some b:=⟨_,gEl (by have:=HNL.out;omega)⟩;have HBb:=qH hb;have hR:=RMem.below HH.out Aa.out;have HRr:=qH hR;obtain⟨gO,cO,a,eO,hcO1,hcO2,hgO,hOO,ha,hSa,hcO,hfO⟩:=RMem.outAt hR HP.out HSl.out hb;have HA:=qH ha;have HSA:=qH hSa;rw[HOV.out]at eO;injection eO with eO1 eO2 eO3;subst eO1 eO3;have HOV2:Hid (s.ov=.slice (some ⟨gO,0,none⟩) p.out.length co):=HOV.out;have HOO:=qH hOO;have hkn:(k:Int)<nouts n:=by have:=HF.out.olen;have:=HNL.out;omega
   obtain⟨q,hq⟩:=qE (D2 d.M.ns ((i:Int),(k:Int)));obtain⟨r',j',n',hn',hj',_,Au,hql⟩:=HS.out.g.reader HN.out hkn;have hqx:q<d.M.pipes.length:=by rw[hq,HS.out.xlen,Au];exact hql
   have HPO:Hid _:=ba6 D r O d i k q gX cX n wr hR HS.out.g HN.out hkn HS.out.xlen hq HVX.out HCX.out;obtain⟨x,hx⟩:∃x,d.M.pipes[q]? = some x:=⟨_,gEl hqx⟩;have HX:=qH hx;have HQ:=qH hq;have Qv:RES=if 0<(pwrite x b).2.1 then ((d.M.setX q (pwrite x b).1).setP i (p.setOut k (b.drop (pwrite x b).2.1)),0) else I5 d.M i p (k+1) (p.out.drop (k+1)):=by
    have hdr:p.out.drop k=b::p.out.drop (k+1):=by rw[qh (gSm hb).1];congr 1;rw[gEl (gSm hb).1]at hb;injection hb
    rw[Iz.out,hdr,I5,<- hq,aQ6 hx]
   have Gh:=qH Qv;have HPG:Hid (0<(pwrite x b).2.1->(pwrite x b).2.1<=b.length):=(show 0<(pwrite x b).2.1->(pwrite x b).2.1<=b.length from fun h0=>(aH6 (HS.out.pipe x (mGt hx)) h0).2.1);have hbl:=F6 hSa.reads;clear hb hR ha hSa hOO hq hn' hj' Au hql hx Iz Qv hqx hkn;unfold sl at hcO;obtain⟨BL,hBL⟩:=qE b.length;have HBL:=qH hBL;obtain⟨aa,ca⟩:=a;simp only at hcO hbl;rw[<- hBL]at hcO hbl;clear hBL;go_wp2_with fail;refine qD HPO.out ?_;rintro e w2⟨rfl,hb2⟩;have hR2:=RMem.below HRr.out hb2;have HR2:=qH hR2;obtain⟨t,ht,hRt,x0,x1,x2,x3,hfX,hOX,hgX⟩:=RMem.atX hR2 HVX.out HX.out;have HT:=qH ht;have HRT:=qH hRt;have HB2:=qT Aa hb2;have HB2':=qH hb2;have Md:Hid (SOf w2 O (.out i k) (aa,ca) b):=SOf.keep HSA.out (fun k' hk'=>hb2.block k' (HRr.out.lo k' _ hk').2) (fun _ _=>rfl);have Me:=qC hb2 hcO
   have HWR:Hid _:=cd6 t.1 aa t.2 ca x b w2 hRt.1 Md.out.reads;have HOX:=qH hOX;unfold W9 at HWR;unfold sl at x0;rw[<- HBL.out]at HWR;clear hb2 hR2 ht hRt HPO hcO hOX;generalize x.b.length=XL at *;generalize x.room=xr at *;generalize x.closed=xc at *;generalize x.shut=xs at *;obtain⟨ta,tc⟩:=t;simp only at x0 HWR;go_wp2_with fail;refine qD HWR.out ?_;rintro e w3⟨ar,cr,rfl,hPB,hb3⟩;obtain⟨Z,hZ⟩:=qE (pwrite x b);rw[<- hZ]at hPB Gh HPG ⊢;obtain⟨X',cnt,err⟩:=Z;obtain⟨xb',xr',xc',xs'⟩:=X';have HPB:=qH hPB;have HB3:=qH hb3;have hcO3:=qC hb3 Me;have g3:gO<w3.heap.size:=bLt w3 _ hcO3;simp only at Gh HPG;clear hZ hPB HWR;unfold W9;simp only;generalize hXL':xb'.length=XL';by_cases Ds:0<cnt
   .
    have hcb:=HPG.out Ds;have HR9:=qH (show RES=((d.M.setX q ⟨xb',xr',xc',xs'⟩).setP i (p.setOut k (b.drop cnt)),0) by rw[Gh.out,qF Ds]);rw[<- HBL.out]at hcb;clear Gh HPG;have hcnt':(0:Int)<(cnt:Int):=by omega
    have hR3:=RMem.fresh HR2.out HB3.out (.pipe q);have Na:=ba8 (O:=O) (o:=.pipe q) HPB.out;have hR4:=RMem.below hR3 (boxE (w:=w3) (o:=.cells #[.slice ar XL' cr,.int .i64 xr',.bool xc',.bool xs'] 66));obtain⟨W4,hW4⟩:=qE (w3.alloc (.cells #[.slice ar XL' cr,.int .i64 xr',.bool xc',.bool xs'] 66));have Bf:W4.heap[w3.heap.size]? = some (.cells #[.slice ar XL' cr,.int .i64 xr',.bool xc',.bool xs'] 66 (0,0)):=by rw[hW4];exact qN _ _
    have Hg:Bq w3 W4:=by rw[hW4];exact boxE
    rw[<- hW4]at hR4;have hBD:Below D w W4:=(Aa.out.mono HH.out.le).trans ((HB2'.out.mono (by have:=HRr.out.le;exact this)).trans ((HB3.out.mono (by have:=HR2.out.le;exact this)).trans (Hg.mono (by have:=hR3.le;exact this))));have Hz:ROf W4 (addO O w2 w3 (.pipe q)) (.pipe q) (ar,cr) xb':=Na.keep (fun k' hk'=>Hg.block k' (hR3.lo k' _ hk').2) (fun _ _ _=>rfl);obtain⟨t4,ht4,_,y0,y1,y2,y3,gfX,gOX,gX4⟩:=RMem.atX hR4 HVX.out HX.out;obtain⟨gO4,cO4,a4,eO4,_,_,gO5,oO4,ha4,Uk,z0,zf⟩:=RMem.outAt hR4 HP.out HSl.out HBb.out;rw[HA.out]at ha4;injection ha4 with ha4;subst ha4;rw[HOV2.out]at eO4;injection eO4 with eO4;injection eO4 with eO4;injection eO4 with eO4;subst eO4;obtain⟨m0,m1,m2,m3⟩:=E5 Bf;rcases id Uk with⟨Dh,hbn⟩|⟨g1,off1,cur1,hs1,ho1,hg1,hl1,hl2,hl3,hl4⟩
    . exfalso;rw[hbn]at HBL;have:=HBL.out;simp at this;omega
    .
     simp only at hs1 hl1 hl2 hl3;subst hs1;have HR4:Hid _:=hR4;have HROF4:Hid _:=Hz;have HSa4:Hid _:=Uk;have HBD:=qH hBD;have Ul:Hid _:=gOX;have Um:Hid _:=oO4;have hl2':ca<=9223372036854775807:=by unfold maxLen at hl2;exact hl2
     rw[<- HBL.out]at hl1
     have Ci:∀(s':Sl)(v:Value),v=sl (b.drop cnt) s'->SOf W4 (addO O w2 w3 (.pipe q)) (.out i k) s' (b.drop cnt) ->
      l9 G (((((W4.setCell ⟨gX,q*4,none⟩ (.slice ar XL' cr)).setCell ⟨gX,q*4+1,none⟩ (.int .i64 xr')).setCell ⟨gX,q*4+2,none⟩ (.bool xc')).setCell ⟨gX,q*4+3,none⟩ (.bool xs')).setCell ⟨gO,k,none⟩ v).drew D r RES.1 /\
      Below D w (((((W4.setCell ⟨gX,q*4,none⟩ (.slice ar XL' cr)).setCell ⟨gX,q*4+1,none⟩ (.int .i64 xr')).setCell ⟨gX,q*4+2,none⟩ (.bool xc')).setCell ⟨gX,q*4+3,none⟩ (.bool xs')).setCell ⟨gO,k,none⟩ v).drew:=by
      intro s' v hv hs'
      subst hv
      have hDX:D<=gX:=(HR4.out.lo _ _ Ul.out).1
      have hDO:D<=gO:=(HR4.out.lo _ _ Um.out).1
      have e0:(Value.slice ar XL' cr)=sl xb' (ar,cr):=by unfold sl;rw[hXL']
      rw[e0]
      have k1:=RMem.setPipe HR4.out (x':=⟨xb',xr',xc',xs'⟩) HX.out HVX.out Ul.out HROF4.out
      have hs9:=SOf.keep hs' (w':=((((W4.setCell ⟨gX,q*4,none⟩ (sl xb' (ar,cr))).setCell ⟨gX,q*4+1,none⟩ (.int .i64 xr')).setCell ⟨gX,q*4+2,none⟩ (.bool xc')).setCell ⟨gX,q*4+3,none⟩ (.bool xs'))) (O':=addO O w2 w3 (.pipe q)) (fun k' hk'=>by
       have hne:k'≠gX:=fun e=>by subst e;rw[Ul.out]at hk';cases hk'
       rw[qJ _ _ _ _ hne,qJ _ _ _ _ hne,qJ _ _ _ _ hne,qJ _ _ _ _ hne]) (fun _ _=>rfl)
      have k2:=RMem.setOut k1 HP.out HSl.out HBb.out HOV2.out Um.out hs9
      refine⟨l9.drew ⟨addO O w2 w3 (.pipe q),(d.setPipe q ⟨xb',xr',xc',xs'⟩ (ar,cr)).setProc i (p.setOut k (b.drop cnt)) (s.outSet k s'),k2,?_⟩,(((((HBD.out.setCell hDX _).setCell hDX _).setCell hDX _).setCell hDX _).setCell hDO _).drew⟩
      rw[HR9.out];rfl
     have Ao:Hid _:=Ci;clear Ci;have HRZ:=qH (show RES.2=0 by rw[HR9.out]);have hgne:gX≠gO:=fun e=>by rw[e,Um.out]at gOX;cases gOX
     have fX0:=gfX (q*4);have fX1:=gfX (q*4+1);have fX2:=gfX (q*4+2);have fX3:=gfX (q*4+3);have fO:=zf k;unfold sl at y0 z0;rw[<- HBL.out]at z0;clear hR4 Hz Uk hBD gOX oO4 hR3 Na ht4 gfX zf hg1 hl3 hl4 hl2 Bf Hg HR9 x0 x1 x2 x3 hfX Me hcO3 p2 b3;generalize x.b.length=XL0 at *;generalize x.room=xr0 at *;generalize x.closed=xc0 at *;generalize x.shut=xs0 at *;by_cases hce:ca=cnt
     . subst hce;have HSO:Hid (SOf W4 (addO O w2 w3 (.pipe q)) (.out i k) (some ⟨g1,off1,none⟩,0) (b.drop ca)):=SOf.drop HSa4.out rfl (by rw[<- HBL.out];omega) _ (.inr ⟨rfl,rfl⟩);have hBe:BL=ca:=by omega
       subst hBe;go_upto_region 8 with fail;rw[<- hW4];clear hW4;go_region
       all_goals go_wp2_with fail
       all_goals go_ret
       all_goals refine⟨by rw[HRZ.out];rfl,?_⟩
       all_goals exact Ao.out (some ⟨g1,off1,none⟩,0) _ (by unfold sl;rw[qo,<- HBL.out,zE]) HSO.out
     . have HSO:Hid (SOf W4 (addO O w2 w3 (.pipe q)) (.out i k) (some ⟨g1,off1+cnt,none⟩,ca-cnt) (b.drop cnt)):=SOf.drop HSa4.out rfl (by rw[<- HBL.out];omega) _ (.inl rfl);go_upto_region 8 with fail;rw[<- hW4];clear hW4;go_region
       all_goals go_wp2_with fail
       all_goals go_ret
       all_goals refine⟨by rw[HRZ.out];rfl,?_⟩
       all_goals exact Ao.out (some ⟨g1,off1+cnt,none⟩,ca-cnt) _ (by unfold sl;rw[qo,<- HBL.out]) HSO.out
   . have HR9:=qH (show RES=I5 d.M i p (k+1) (p.out.drop (k+1)) by rw[Gh.out,qA Ds]);have hcnt':¬(0:Int)<(cnt:Int):=by omega
     clear Gh HPG Ds;go_wp2_with fail;go_roundw
     case rel=>exact⟨k+1,by omega,by go_num,(HB2.out.trans (HB3.out.mono HB2.out.size)).alloc (by have:=HB2.out.size;have:=HB3.out.size;omega) _,HR9⟩
     case measure=>simp[intOf];omega
  .
   have HR:=qH (show RES=(d.M,8) by
    rw[Iz.out,qt (by have:=HNL.out;omega)]
    rfl)
   clear Iz;go_wp2_with fail;go_ret;rw[HR.out];exact⟨rfl,⟨O,d,RMem.below HH.out Aa.out,rfl⟩,Aa.out.mono HH.out.le⟩
end Go.Proofs.YtllgglolcgdehaaGreatDoor
namespace Go.Proofs.YtllgglolcgdehaaGreatDoor
open Go.RowKit Go.Gs Tryz
structure CL (w:World) (B:Nat) (O:Nat->Option Own) (ro:Own) (bo:Nat->Own) (v:Value) (ss:List Sl) (l:List (List UInt8)):Prop where
 own:w.ownsRow B 28 1 v l.length (P8 l ss)
 ob:R7 O v ro
 len:ss.length=l.length
 bys:∀(j:Nat)(b:List UInt8)(s:Sl),l[j]? = some b->ss[j]? = some s->SOf w O (bo j) s b
def bE7:Value->Sl
 | .slice a _ c=>(a,c)
 | _=>nilS
theorem cd9{w:World}{v:Value}{l:List (List UInt8)}(h:RList w v U l):∃ss:List Sl,ss.length=l.length/\Reads w v l.length (P8 l ss)/\∀(j:Nat)(b:List UInt8)(s:Sl),l[j]? = some b->ss[j]? = some s->Reads w (sl b s) b.length (b.map U):=by
 obtain⟨cells,hr,hc⟩:=h;have hcl:cells.length=l.length:=hr.1;have hat:∀(j:Nat)(b:List UInt8),l[j]? = some b->∃s:Sl,cells[j]? = some (sl b s)/\bE7 (sl b s)=s/\Reads w (sl b s) b.length (b.map U):=by
  intro j b hb;obtain⟨u,hu,hru⟩:=hc j b hb;obtain⟨_,ao,cap,e,_⟩:=id hru;refine⟨(ao,cap),?_,rfl,?_⟩
  . rw[hu,e];rfl
  . rw[e]at hru;exact hru
 have e1:P8 l (cells.map bE7)=cells:=by
  apply xX;intro j;unfold P8
  cases hb:l[j]? with
  | none=>
   rw[List.getElem?_zipWith,hb]
   have:cells[j]? = none:=by rw[List.getElem?_eq_none_iff]at hb ⊢;omega
   rw[this]
  | some b=>
   obtain⟨s,hs,hs2,_⟩:=hat j b hb
   rw[List.getElem?_zipWith,hb,qQ,hs]
   simp[hs2]
 refine⟨cells.map bE7,by rw[qM,hcl],by rw[e1];exact hr,fun j b s hb hs=>?_⟩;obtain⟨s',hs',hs2,hrd⟩:=hat j b hb;rw[qQ,hs']at hs;simp[hs2]at hs;subst hs;exact hrd
theorem bT4(l:List (List UInt8))(ss:List Sl):∀u∈P8 l ss,u.oneCell'=true:=by intro u hu;obtain⟨j,hj⟩:=qb hu;unfold P8 at hj;obtain⟨b,s,_,_,e⟩:=zM.1 hj;rw[<- e];rfl
theorem cq6(b:List UInt8):∀u∈b.map U,u.oneCell'=true:=by intro u hu;obtain⟨x,_,e⟩:=qg.1 hu;rw[<- e];rfl
theorem ae9{w:World}{ao:Option Addr}{n c:Nat}{xs:List Value}(h:Reads w (.slice ao n c) n xs):(ao=none->n=0)/\∀a,ao=some a->∀j u,xs[j]? = some u->w.cell? (a.add j)=some u:=by
 obtain⟨h1,ao',cap,e,h2,h3,h4⟩:=h;injection e with e1 e2 e3;subst e1 e3;refine⟨fun h0=>?_,fun a ha j u hu=>?_⟩
 .
  by_cases hn:n=0
  . exact hn
  . obtain⟨b,off,e,_⟩:=h4 hn;rw[h0]at e
    cases e
 . have hn:n≠0:=by have:=(gSm hu).1;omega
   obtain⟨b,off,e,hc⟩:=h4 hn;rw[ha]at e;injection e with e;subst e;rw[addP];exact hc j u hu
theorem bi6(ab:Option Addr)(cb:Nat)(bs:List UInt8)(w:World)(hr:Reads w (.slice ab bs.length cb) bs.length (bs.map U))(hl:bs.length<=100000):
 Calls prog 125 #[.slice ab bs.length cb] w fun e w'=>∃v',e=.returned v'/\w'.ownsRow w.heap.size 5 1 v' bs.length (bs.map U)/\Bq w w':=
 bh9 ab bs.length cb (bs.map U) w (by simp) hl (ae9 hr).1 (ae9 hr).2 (cq6 bs)
structure CLTo (w wr:World) (v:Value) (ro:Own) (bo:Nat->Own) (l:List (List UInt8)) (k:Nat) (ss:List Sl) (O:Nat->Option Own):Prop where
 own:wr.ownsRow w.heap.size 28 1 v l.length (P8 l ss)
 ob:R7 O v ro
 len:ss.length=l.length
 lo:∀g o,O g=some o->w.heap.size<=g/\g<wr.heap.size
 vals:∀g o,O g=some o->o=ro\/∃j,o=bo j
 bys:∀(j:Nat)(b:List UInt8)(s:Sl),j<k->l[j]? = some b->ss[j]? = some s->SOf wr O (bo j) s b
 rest:∀(j:Nat)(b:List UInt8)(s:Sl),k<=j->l[j]? = some b->ss[j]? = some s->Reads w (sl b s) b.length (b.map U)
theorem ap5{α:Type}{l:List α}{k:Nat}{b:α}(h:l[k]? = some b):l.set k b=l:=by
 apply xX;intro j;by_cases e:k=j
 . subst e;rw[x9 h,h]
 . rw[C4 e]
theorem CLTo.step{w wr w2:World}{g N c:Nat}{ro:Own}{bo:Nat->Own}{l:List (List UInt8)}{k:Nat}{ss:List Sl}{O:Nat->Option Own}(hN:N=l.length)(h:CLTo w wr (.slice (some ⟨g,0,none⟩) N c) ro bo l k ss O)(hne:∀j,bo j≠ro){b:List UInt8}(hb:l[k]? = some b)(hle:Bq wr w2)(hws:w.heap.size<=wr.heap.size)
 {v2:Value} (ho:w2.ownsRow wr.heap.size 5 1 v2 b.length (b.map U)):
 ∃s2,CLTo w (w2.setCell ⟨g,k,none⟩ v2) (.slice (some ⟨g,0,none⟩) N c) ro bo l (k+1) (ss.set k s2) (addO O wr w2 (bo k)):=by
 subst hN;have hgo:O g=some ro:=h.ob g rfl;have hgl:=(h.lo g ro hgo);have hb2:∀g',v2.ownBlock=some g'->addO O wr w2 (bo k) g'=some (bo k):=fun g' hg'=>by have:=ho.lt g' hg';unfold addO;rw[qF ⟨this.1,this.2⟩]
 obtain⟨s2,e2,hso,_⟩:=SOf.of_owns ho hb2;subst e2;have hkl:k<l.length:=(gSm hb).1;have hold:∀k',k'<wr.heap.size->addO O wr w2 (bo k) k'=O k':=fun k' hk'=>by unfold addO;rw[qA (by omega)]
 have hg2:addO O wr w2 (bo k) g=some ro:=(hold g hgl.2).trans hgo
 have An:w2.ownsRow w.heap.size 28 1 (.slice (some ⟨g,0,none⟩) l.length c) l.length (P8 l ss):=l6 h.own (fun g' hg'=>by
  have e1:g=g':=by injection hg'
  subst e1
  exact hle.block g hgl.2)
 refine⟨s2,?_,fun g' hg'=>?_,by simpa using h.len,fun g' o hg'=>?_,fun g' o hg'=>?_,fun j b' s hj hb' hs=>?_,fun j b' s hj hb' hs=>?_⟩
 . have:=J3 An k (by omega) (sl b s2);rw[aD9,ap5 hb]at this;exact this
 . have e1:g=g':=by injection hg'
   subst e1;exact hg2
 .
  show w.heap.size<=g'/\g'<(w2.setCell _ _).heap.size;have hsz:(w2.setCell ⟨g,k,none⟩ (sl b s2)).heap.size=w2.heap.size:=by simp
  rw[hsz];have:=hle.size;unfold addO at hg';split at hg'
  . omega
  . have:=h.lo g' o hg';omega
 .
  unfold addO at hg';split at hg'
  . injection hg' with hg';exact .inr ⟨k,hg'.symm⟩
  . exact h.vals g' o hg'
 .
  have hk':∀k',addO O wr w2 (bo k) k'=some (bo j)->(w2.setCell ⟨g,k,none⟩ (sl b s2)).heap[k']? = w2.heap[k']?:=fun k' hk'=>qJ _ _ _ _ (fun e=>by
   subst e
   rw[hg2]at hk'
   injection hk' with hk'
   exact hne j hk'.symm)
  by_cases e:j=k
  . subst e;rw[hb]at hb';injection hb' with hb';subst hb';have hsl:ss.length=l.length:=h.len;have e3:(ss.set j s2)[j]? = some s2:=by rw[xJ,qF rfl,qF (by omega)]
    rw[e3]at hs;injection hs with hs;subst hs;exact hso.keep hk' (fun _ _=>rfl)
  . rw[C4 (fun e2=>e e2.symm)]at hs;have h1:=h.bys j b' s (by omega) hb' hs;have h2:=h1.keep (w':=w2) (O':=addO O wr w2 (bo k)) (fun k' hk''=>hle.block k' (h.lo k' _ hk'').2) hold;exact h2.keep hk' (fun _ _=>rfl)
 . rw[C4 (fun e2=>by omega)]at hs;exact h.rest j b' s (by omega) hb' hs
theorem bE8(ro:Own)(bo:Nat->Own)(hne:∀j,bo j≠ro)(ao:Option Addr)(c:Nat)(l:List (List UInt8))(w:World)(h:RList w (.slice ao l.length c) U l)(hn:l.length<=100000)(hb:∀b∈l,b.length<=100000):
 Calls prog 128 #[.slice ao l.length c] w fun e w'=>∃v' ss O,e=.returned v'/\CL w' w.heap.size O ro bo v' ss l/\((∀g o,O g=some o->w.heap.size<=g/\g<w'.heap.size)/\∀g o,O g=some o->o=ro\/∃j,o=bo j)/\Bq w w':=by
 obtain⟨ss0,hl0,hr0,hb0⟩:=cd9 h;have hC:=bh8 ao l.length c (P8 l ss0) w (by have:=hr0.1;omega) hn (ae9 hr0).1 (ae9 hr0).2 (bT4 l ss0);have HC:Hid _:=hC;have HB0:=qH hb0;have HB:=qH hb;have HL0:=qH hl0;obtain⟨N,hN⟩:=qE l.length;have HN:=qH hN;rw[<- hN]at HC hn ⊢;clear h hb hl0 hr0 hb0 hC hN;go_enter Tryz.func128,Tryz.ntmps128;go_wp2_with fail;refine qD HC.out ?_;rintro e w1⟨v',rfl,Ab,hb1⟩;have HB1:=qH hb1;have HOW:=qH Ab;obtain⟨⟨ao1,c1,rfl,hc1,hc2⟩,Bo⟩:=j5 Ab;have hc2':c1<=9223372036854775807:=by unfold maxLen at hc2;exact hc2
 have hST:∃O,CLTo w w1 (.slice ao1 N c1) ro bo l 0 ss0 O:=by
  refine⟨fun k=>if some k=(Value.slice ao1 N c1).ownBlock then some ro else none,by rw[<- HN.out];exact HOW.out,fun g hg=>by simp[hg],HL0.out,fun g o hg=>?_,fun g o hg=>?_,fun j b s hj=>absurd hj (by omega),fun j b s _ hb hs=>HB0.out j b s hb hs⟩
  . by_cases e:some g=(Value.slice ao1 N c1).ownBlock
    . exact Ab.lt g e.symm
    . rw[qA e]at hg;cases hg
  . by_cases e:some g=(Value.slice ao1 N c1).ownBlock
    . rw[qF e]at hg;injection hg with hg;exact .inl hg.symm
    . rw[qA e]at hg;cases hg
 obtain⟨O0,hST⟩:=hST;have HST:Hid _:=hST;by_cases h0:N=0
 .
  have Ao:Hid (CL w1 w.heap.size O0 ro bo (.slice ao1 N c1) ss0 l/\((∀g o,O0 g=some o->w.heap.size<=g/\g<w1.heap.size)/\∀g o,O0 g=some o->o=ro\/∃j,o=bo j)):=⟨⟨hST.own,hST.ob,hST.len,fun j b s hb _=>by
   have:=(gSm hb).1
   have:=HN.out
   omega⟩,hST.lo,hST.vals⟩
  subst h0;clear hST Ab Bo hb1 HC;go_wp2_with fail;go_loopw [10] (fun i wr=>i=.int .i64 0/\wr=w1) (fun i _=>0)
  case atStart=>exact⟨rfl,rfl⟩
  case round=>obtain⟨rfl,rfl⟩:=hrel;go_wp2_with fail;go_ret;exact⟨_,ss0,O0,rfl,Ao.out.1,Ao.out.2,HB1.out⟩
 .
  obtain⟨g,cg,e1,_,_,_,_,_⟩:=Bo h0;injection e1 with e1 e2 e3;subst e1;clear hST Ab Bo hb1 HC e3;go_wp2_with fail;go_loopw [10] (fun i wr=>∃k:Nat,k<=N/\i=.int .i64 k/\Hid (Bq w wr)/\Hid (∃ss O,CLTo w wr (.slice (some ⟨g,0,none⟩) N c1) ro bo l k ss O)) (fun i _=>N-(intOf i).toNat)
  case atStart=>exact⟨0,qP _,rfl,HB1,(show ∃ss O,CLTo w w1 (.slice (some ⟨g,0,none⟩) N c1) ro bo l 0 ss O from ⟨ss0,O0,HST.out⟩)⟩
  case round=>
   obtain⟨k,hk,rfl,Aa,Bw⟩:=hrel;clear HST;obtain⟨ss,O,hI⟩:=Bw.out;have HI:Hid _:=hI;clear Bw;by_cases hlt:k<N
   .
    obtain⟨b,hb⟩:∃b,l[k]? = some b:=⟨_,gEl (by have:=HN.out;omega)⟩;obtain⟨s,hs⟩:∃s,ss[k]? = some s:=⟨_,gEl (by have:=hI.len;have:=HN.out;omega)⟩;have HBb:=qH hb;have Ac:wr.cell? ⟨g,k,none⟩=some (sl b s):=by have h1:=hI.own;rw[<- HN.out]at h1;rw[h1.cellAt k (by omega)];exact az7 hb hs
    have hfz:wr.frozen? ⟨g,k,none⟩=false:=by have h1:=hI.own;rw[<- HN.out]at h1;exact h1.frozenAt k
    have hrd:=hI.rest k b s (qB _) hb hs;unfold sl at Ac hrd;have HCB:Hid _:=bi6 s.1 s.2 b wr (hrd.below Aa.out) (HB.out b (mGt hb));obtain⟨sa,sc⟩:=s;obtain⟨BL,hBL⟩:=qE b.length;have HBL:=qH hBL;simp only at Ac HCB;rw[<- hBL]at Ac HCB;clear hI hrd hb hs hBL;go_wp2_with fail;refine qD HCB.out ?_;rintro e w2⟨v2,rfl,ho2,hb2⟩;obtain⟨⟨ao2,c2,hv2,_,_⟩,_⟩:=j5 ho2;subst hv2;have Nb:=qC hb2 Ac;have hfz2:w2.frozen? ⟨g,k,none⟩=false:=by have hgl:g<wr.heap.size:=bLt wr _ Ac;have:=hb2.block g hgl;simp only[World.frozen?]at hfz ⊢;rw[this];exact hfz
    have As:=CLTo.step HN.out HI.out hne HBb.out hb2 Aa.out.size (by rw[HBL.out]at ho2;exact ho2);have hwg:w.heap.size<=g:=(HI.out.lo g _ (HI.out.ob g rfl)).1
    have Jn:=qH (show ∃ss O,CLTo w (w2.setCell ⟨g,k,none⟩ (.slice ao2 BL c2)) (.slice (some ⟨g,0,none⟩) N c1) ro bo l (k+1) ss O from by
     obtain⟨s2,h2⟩:=As
     rw[<- HBL.out]at h2
     exact⟨_,_,h2⟩)
    have HB2:Hid (Bq w (w2.setCell ⟨g,k,none⟩ (.slice ao2 BL c2))):=(qT Aa hb2).out.setCell hwg _;clear As ho2 hb2 Ac hfz HCB;go_wp2_with fail;go_roundw
    case rel=>exact⟨k+1,by omega,by go_num,HB2,Jn⟩
    case measure=>simp[intOf];omega
   .
    have Ao:Hid (CL wr w.heap.size O ro bo (.slice (some ⟨g,0,none⟩) N c1) ss l/\((∀g o,O g=some o->w.heap.size<=g/\g<wr.heap.size)/\∀g o,O g=some o->o=ro\/∃j,o=bo j)):=⟨⟨hI.own,hI.ob,hI.len,fun j b s hb hs=>hI.bys j b s (by
     have:=(gSm hb).1
     have:=HN.out
     omega) hb hs⟩,hI.lo,hI.vals⟩
    clear hI;go_wp2_with fail;go_ret;exact⟨_,ss,O,rfl,Ao.out.1,Ao.out.2,Aa.out⟩
theorem W7{α β:Type}:∀{xs:List α}{P:Nat->α->β->Prop},(∀(j:Nat)(x:α),xs[j]? = some x->∃y,P j x y)->∃ys:List β,ys.length=xs.length/\∀(j:Nat)(x:α)(y:β),xs[j]? = some x->ys[j]? = some y->P j x y
 | [],P,h=>⟨[],rfl,fun j x y hx=>by simp at hx⟩
 | a::r,P,h=>by
  obtain⟨y0,hy0⟩:=h 0 a rfl
  obtain⟨ys,h1,h2⟩:=W7 (xs:=r) (P:=fun j x y=>P (j+1) x y) (fun j x hx=>h (j+1) x (by simpa using hx))
  refine⟨y0::ys,by simp[h1],fun j x y hx hy=>?_⟩
  cases j with
  | zero=>
   simp at hx hy
   subst hx hy
   exact hy0
  | succ j=>exact h2 j x y (by simpa using hx) (by simpa using hy)
structure Off (g:Nat) (w w':World):Prop where
 os:w'.os=w.os
 tape:w'.tape=w.tape
 output:w'.output=w.output
 size:w.heap.size<=w'.heap.size
 block:∀k,k<w.heap.size->k≠g->w'.heap[k]? = w.heap[k]?
theorem Off.refl(g:Nat)(w:World):Off g w w:=⟨rfl,rfl,rfl,qB _,fun _ _ _=>rfl⟩
theorem Off.of_below{g:Nat}{w w':World}(h:Bq w w'):Off g w w':=⟨h.os,h.tape,h.output,h.size,fun k hk _=>h.block k hk⟩
theorem Off.trans{g:Nat}{w w1 w2:World}(h:Off g w w1)(k:Off g w1 w2):Off g w w2:=⟨k.os.trans h.os,k.tape.trans h.tape,k.output.trans h.output,by have:=h.size;have:=k.size;omega,fun j hj hn=>(k.block j (by have:=h.size;omega) hn).trans (h.block j hj hn)⟩
theorem Off.set{g:Nat}{w w':World}(h:Off g w w'){a:Addr}{v:Value}(ha:a.block=g):Off g w (w'.setCell a v):=
 ⟨h.os,h.tape,h.output,by simpa using h.size,fun k hk hn=>(qJ _ _ _ _ (by rw[ha];exact hn)).trans (h.block k hk hn)⟩
theorem Off.setNew{g:Nat}{w w':World}(h:Off g w w'){a:Addr}{v:Value}(ha:w.heap.size<=a.block):Off g w (w'.setCell a v):=
 ⟨h.os,h.tape,h.output,by simpa using h.size,fun k hk hn=>(qJ _ _ _ _ (by omega)).trans (h.block k hk hn)⟩
def cutH(w:World)(D:Nat):World:={ w with heap:=w.heap.extract 0 D }
theorem ai8{w:World}{D:Nat}(h:D<=w.heap.size):(cutH w D).heap.size=D:=by unfold cutH;simp;omega
theorem aw7{w:World}{D k:Nat}(h:D<=w.heap.size)(hk:k<D):(cutH w D).heap[k]? = w.heap[k]?:=by unfold cutH;simp only[Array.getElem?_extract];rw[qF (by omega),qa]
theorem aQ7{w:World}{D:Nat}(h:D<=w.heap.size):Below D (cutH w D) w:=⟨rfl,rfl,rfl,by rw[ai8 h];exact h,fun k hk=>(aw7 h hk).symm⟩
structure OffB (g:Nat) (w w':World):Prop where
 os:w'.os=w.os
 tape:w'.tape=w.tape
 output:w'.output=w.output
 size:w.heap.size<=w'.heap.size
 block:∀k,k<w.heap.size->k≠g->k≠g+1->w'.heap[k]? = w.heap[k]?
theorem OffB.of{g:Nat}{w w':World}(h:Off g w w'):OffB g w w':=⟨h.os,h.tape,h.output,h.size,fun k hk h1 _=>h.block k hk h1⟩
theorem OffB.set{g:Nat}{w w':World}(h:OffB g w w'){a:Addr}{v:Value}(ha:a.block=g+1):OffB g w (w'.setCell a v):=
 ⟨h.os,h.tape,h.output,by simpa using h.size,fun k hk hn hn2=>(qJ _ _ _ _ (by rw[ha];exact hn2)).trans (h.block k hk hn hn2)⟩
theorem bT5{w w':World}{g:Nat}(h:OffB g w w'):OffB g w (cutH w' w.heap.size):=⟨h.os,h.tape,h.output,by rw[ai8 h.size];exact qB _,fun k hk hn hn2=>(aw7 h.size hk).trans (h.block k hk hn hn2)⟩
def brX(D k:Nat):Prop:=k=D+1
theorem NO.off{w w':World}{B D:Nat}{e:TypeId}{v:Value}{rows:List NRow}(h:NO w B D (brX D) e v rows)(hB:D+2<=B)(ho:OffB D w w'):NO w' B D (brX D) e v rows:=
 h.keep ⟨ho.os,ho.tape,ho.output,ho.size,fun k hk hn=>ho.block k hk (fun e=>hn (.inl e)) (fun e=>hn (.inr (.inr e)))⟩ (fun g hg=>by
  have:=h.base g hg
  exact ho.block g this.2 (by omega) (by omega)) (NxtX.refl _ _)
theorem aU7:∀(rows:List NRow)(k:Nat)(r r':NRow),rows[k]? = some r->r'.1=r.1->A8 (rows.set k r')=(A8 rows).set (k*8+7) (.slice r'.2.1 r'.1.ins.length r'.2.2):=by intro rows k r r' hk e;have h1:=P7 (k:=8) (rows.map encN) k (encN r) (fun x hx=>by obtain⟨y,_,rfl⟩:=qg.1 hx;rfl) (by rw[qQ,hk];rfl) 7 (.slice r'.2.1 r'.1.ins.length r'.2.2) (by omega);unfold A8;rw[h1,List.map_set];congr 2;unfold encN;rw[e];rfl
theorem NO.setIn{w:World}{B D:Nat}{Z:Nat->Prop}{e:TypeId}{g n cap:Nat}{rows:List NRow}(h:NO w B D Z e (.slice (some ⟨g,0,none⟩) n cap) rows){k:Nat}{r r':NRow}(hk:rows[k]? = some r)(hn:r'.1=r.1)(hr:POff w D (some g) Z r'.2.1 r'.2.2 r'.1.ins):
 NO (w.setCell ⟨g,k*8+7,none⟩ (.slice r'.2.1 r'.1.ins.length r'.2.2)) B D Z e (.slice (some ⟨g,0,none⟩) n cap) (rows.set k r'):=by
 have hkl:k<rows.length:=(gSm hk).1;have hnn:n=rows.length:=by
  rcases h.own.2 with⟨h2,_⟩|⟨_,_,_,h2,_⟩
  . cases h2
  . injection h2
 subst hnn;have hK:Kept D (some g) Z w (w.setCell ⟨g,k*8+7,none⟩ (.slice r'.2.1 r'.1.ins.length r'.2.2)):=⟨rfl,rfl,rfl,by simp,fun q _ hq=>qJ _ _ _ _ (fun e=>hq (.inr (.inl (by rw[e]))))⟩;refine⟨?_,fun x hx=>?_,h.off⟩
 . rw[zR,aU7 rows k r r' hk hn];exact J3 h.own _ (by omega) _
 . rcases xm hx with hx | rfl
   . exact (h.good x hx).keep hK (Nxt.refl _ _) (NxtX.refl _ _)
   . exact hr.keep hK (Nxt.refl _ _) (NxtX.refl _ _)
theorem aU8(rows:List NRow):∀u∈A8 rows,u.oneCell'=true:=by intro u hu;unfold A8 at hu;rw[xz]at hu;obtain⟨l,hl,hu⟩:=hu;obtain⟨r,_,rfl⟩:=qg.1 hl;exact bm5 r u hu
theorem ce0{w:World}{ao:Option Addr}{n cap:Nat}{ns:List SNode}(h:D4 w (.slice ao n cap) ns):∃rows:List NRow,rows.map (·.1)=ns/\(∀a,ao=some a->∀j u,(A8 rows)[j]? = some u->w.cell? (a.add j)=some u)/\(∀r∈rows,F2 w (.slice r.2.1 r.1.ins.length r.2.2) r.1.ins)/\(ao=none->n=0):=by
 obtain⟨ao',cap',e,h2,h3,h4⟩:=h;injection e with e1 e2 e3;subst e1 e2;by_cases h0:ns.length=0
 . have:ns=[]:=qn.1 h0;subst this;exact⟨[],rfl,fun a _ j u hu=>by simp[A8]at hu,fun r hr=>(by cases hr),fun _=>rfl⟩
 .
  obtain⟨b,off,hao,hc⟩:=h4 h0
  obtain⟨ys,hl,hy⟩:=W7 (P:=fun j x (y:Option Addr × Nat)=>av8 w b (off+j*8) x y.1 y.2/\F2 w (.slice y.1 x.ins.length y.2) x.ins) (fun j x hx=>by
   obtain⟨ai,ci,a1,a2⟩:=hc j x hx
   exact⟨(ai,ci),a1,a2⟩)
  have hzl:(ns.zip ys).length=ns.length:=by rw[List.length_zip];omega
  have hz:∀(j:Nat)(r:NRow),(ns.zip ys)[j]? = some r->av8 w b (off+j*8) r.1 r.2.1 r.2.2/\F2 w (.slice r.2.1 r.1.ins.length r.2.2) r.1.ins:=by intro j r hr;rw[List.getElem?_zip_eq_some]at hr;exact hy j r.1 r.2 hr.1 hr.2
  refine⟨ns.zip ys,by rw[List.map_fst_zip (by omega)],fun a ha j u hu=>?_,fun r hr=>?_,fun h=>by rw[hao]at h;cases h⟩
  .
   rw[hao]at ha;injection ha with ha;subst ha;rw[addP];have hjl:j<(A8 (ns.zip ys)).length:=(gSm hu).1;rw[ah5,hzl]at hjl;obtain⟨r,hr⟩:∃r,(ns.zip ys)[j / 8]? = some r:=⟨_,gEl (by rw[hzl];omega)⟩;have hj8:j=j / 8*8+j % 8:=by omega
   have hm:j % 8<8:=by omega
   rw[hj8,ab4 _ _ r hr _ hm]at hu;obtain⟨c0,c1,c2,c3,c4,c5,c6,c7⟩:=(hz _ r hr).1;have Aq:off+j=off+j / 8*8+j % 8:=by omega
   rw[Aq];generalize j % 8=m at *;generalize j / 8=q at *;have:m=0\/m=1\/m=2\/m=3\/m=4\/m=5\/m=6\/m=7:=by omega
   rcases this with rfl | rfl | rfl | rfl | rfl | rfl | rfl | rfl
   all_goals
    simp[encN]at hu;subst hu;assumption
  . obtain⟨j,hj⟩:=qb hr;exact (hz j r hj).2
structure FO2 (w:World) (B D:Nat) (v:Value) (rows:List FRow):Prop where
 fo:FO w B 83 v rows
 lo:D+2<=B
 good:∀r∈rows,r.1.b.length≠0->∀a,r.2.1=some a->a.block≠D/\a.block≠D+1
theorem aQ8{w:World}{a:Addr}{n cap:Nat}{bs:List UInt8}(h:Reads w (.slice (some a) n cap) bs.length (bs.map U))(h0:bs.length≠0):a.block<w.heap.size:=by
 obtain⟨h1,ao,cap,e,h2,h3,h4⟩:=h;obtain⟨b,off,e2,hc⟩:=h4 h0;injection e with e1 _ _;rw[<- e1]at e2;injection e2 with e2;subst e2;have hl:0<(bs.map U).length:=by rw[qM];omega
 exact bLt w _ (hc 0 _ (gEl hl))
theorem FO2.off'{w w':World}{B D:Nat}{v:Value}{rows:List FRow}(h:FO2 w B D v rows)(ho:OffB D w w'):FO2 w' B D v rows:=by
 refine⟨⟨?_,fun r hr=>?_⟩,h.lo,h.good⟩
 . exact l6 h.fo.own (fun g hg=>by
    have h1:=h.fo.own.lt g hg
    have h2:=h.lo
    exact ho.block g h1.2 (by omega) (by omega))
 .
  obtain⟨g1,g2,g3⟩:=h.fo.good r hr;refine⟨g1,?_,g3⟩;by_cases h0:r.1.b.length=0
  . obtain⟨h1,ao,cap,e,h2,h3,h4⟩:=g2;exact⟨h1,ao,cap,e,h2,h3,fun hn=>absurd h0 hn⟩
  . refine aa1 g2 (fun a ha=>ho.block _ ?_ (h.good r hr h0 a ha).1 (h.good r hr h0 a ha).2);rw[ha]at g2;exact aQ8 g2 h0
theorem ce1{w:World}{ao:Option Addr}{n cap:Nat}{fs:List SFile}(h:j6 w (.slice ao n cap) fs):∃rows:List FRow,rows.map (·.1)=fs/\(∀a,ao=some a->∀j u,(Gs.f8 rows)[j]? = some u->w.cell? (a.add j)=some u)/\(∀r∈rows,r.2.2.1=r.1.b.length/\Reads w (.slice r.2.1 r.2.2.1 r.2.2.2) r.1.b.length (r.1.b.map U))/\(ao=none->n=0):=by
 obtain⟨ao',cap',e,h2,h3,h4⟩:=h;injection e with e1 e2 e3;subst e1 e2;by_cases h0:fs.length=0
 . have:fs=[]:=qn.1 h0;subst this;exact⟨[],rfl,fun a _ j u hu=>by simp[Gs.f8]at hu,fun r hr=>(by cases hr),fun _=>rfl⟩
 .
  obtain⟨b,off,hao,hc⟩:=h4 h0
  obtain⟨ys,hl,hy⟩:=W7 (P:=fun j (x:SFile) (y:Option Addr × Nat × Nat)=>w.cell? ⟨b,off+j*2,none⟩=some (.string ⟨x.name.toArray⟩)/\w.cell? ⟨b,off+j*2+1,none⟩=some (.slice y.1 y.2.1 y.2.2)/\y.2.1=x.b.length/\Reads w (.slice y.1 y.2.1 y.2.2) x.b.length (x.b.map U)) (fun j x hx=>by
   obtain⟨u,a1,a2,a3⟩:=hc j x hx
   obtain⟨q1,aa,cc,e,q2⟩:=id a3
   subst e
   exact⟨(aa,x.b.length,cc),a1,a2,rfl,a3⟩)
  have hzl:(fs.zip ys).length=fs.length:=by rw[List.length_zip];omega
  have hz:∀(j:Nat)(r:FRow),(fs.zip ys)[j]? = some r->w.cell? ⟨b,off+j*2,none⟩=some (.string ⟨r.1.name.toArray⟩)/\w.cell? ⟨b,off+j*2+1,none⟩=some (.slice r.2.1 r.2.2.1 r.2.2.2)/\r.2.2.1=r.1.b.length/\Reads w (.slice r.2.1 r.2.2.1 r.2.2.2) r.1.b.length (r.1.b.map U):=by intro j r hr;rw[List.getElem?_zip_eq_some]at hr;exact hy j r.1 r.2 hr.1 hr.2
  refine⟨fs.zip ys,by rw[List.map_fst_zip (by omega)],fun a ha j u hu=>?_,fun r hr=>?_,fun h=>by rw[hao]at h;cases h⟩
  . rw[hao]at ha;injection ha with ha;subst ha;rw[addP];exact aM1 (b:=b) (off:=off) (rows:=fs.zip ys) (fun j r hr=>⟨(hz j r hr).1,(hz j r hr).2.1⟩) j u hu
  . obtain⟨j,hj⟩:=qb hr;exact (hz j r hj).2.2
def OLo(O:Nat->Option Own)(D:Nat)(w:World):Prop:=∀g o,O g=some o->D<=g/\g<w.heap.size
theorem OLo.add{O:Nat->Option Own}{D:Nat}{w w':World}(h:OLo O D w)(hb:Bq w w')(hD:D<=w.heap.size)(o:Own):OLo (addO O w w' o) D w':=by
 intro g o' hg;have:=hb.size;unfold addO at hg;split at hg
 . omega
 . have:=h g o' hg;omega
theorem OLo.set{O:Nat->Option Own}{D:Nat}{w:World}(h:OLo O D w)(a:Addr)(v:Value):OLo O D (w.setCell a v):=fun g o hg=>by
 have:=h g o hg
 rw[show (w.setCell a v).heap.size=w.heap.size by simp]
 exact this
theorem aQ9{O:Nat->Option Own}{w w':World}{o:Own}{k:Nat}(h:k<w.heap.size):addO O w w' o k=O k:=by unfold addO;rw[qA (by omega)]
theorem ROf.of_sof{w:World}{O:Nat->Option Own}{o:Own}{s:Sl}{b:List UInt8}(h:SOf w O o s b):ROf w O o s b:=by
 refine⟨h.reads,fun h0=>?_,fun _ a ha=>?_⟩
 . rcases h with⟨rfl,_⟩|⟨g,off,cur,hs,_⟩
   . rfl
   . rw[h0]at hs;cases hs
 .
  rcases h with⟨rfl,_⟩|⟨g,off,cur,hs,ho,_⟩
  . cases ha
  . rw[hs]at ha;injection ha with ha;subst ha;exact ho
structure PT (w wr:World) (D:Nat) (v:Value) (xs:List SPipe) (k:Nat) (X:List Sl) (O:Nat->Option Own):Prop where
 own:wr.ownsRow D 66 4 v xs.length (y9 xs X).flatten
 ob:R7 O v .pipes
 len:X.length=xs.length
 bys:∀(q:Nat)(x:SPipe)(s:Sl),q<k->xs[q]? = some x->X[q]? = some s->ROf wr O (.pipe q) s x.b
 rest:∀(q:Nat)(x:SPipe)(s:Sl),k<=q->xs[q]? = some x->X[q]? = some s->Reads w (sl x.b s) x.b.length (x.b.map U)
theorem PT.keep{w wr w':World}{D:Nat}{v:Value}{xs:List SPipe}{k:Nat}{X:List Sl}{O O':Nat->Option Own}(h:PT w wr D v xs k X O)(hk:∀g o,O g=some o->(o=.pipes\/∃q,o=.pipe q)->w'.heap[g]? = wr.heap[g]?)(hO:∀g o,O g=some o->O' g=O g):PT w w' D v xs k X O':=
 ⟨l6 h.own (fun g hg=>hk g _ (h.ob g hg) (.inl rfl)),fun g hg=>(hO g _ (h.ob g hg)).trans (h.ob g hg),h.len,fun q x s hq hx hs=>(h.bys q x s hq hx hs).keep (fun g hg=>hk g _ hg (.inr ⟨q,rfl⟩)) hO,h.rest⟩
theorem PT.step{w wr w2:World}{D g c N:Nat}{xs:List SPipe}{k:Nat}{X:List Sl}{O:Nat->Option Own}(hN:N=xs.length)(h:PT w wr D (.slice (some ⟨g,0,none⟩) N c) xs k X O)(hlo:OLo O D wr)(hD:D<=wr.heap.size){x:SPipe}(hx:xs[k]? = some x)(hle:Bq wr w2)
 {v2:Value} (ho:w2.ownsRow wr.heap.size 5 1 v2 x.b.length (x.b.map U)):
 ∃s2,PT w (w2.setCell ⟨g,k*4,none⟩ v2) D (.slice (some ⟨g,0,none⟩) N c) xs (k+1) (X.set k s2) (addO O wr w2 (.pipe k))/\OLo (addO O wr w2 (.pipe k)) D (w2.setCell ⟨g,k*4,none⟩ v2):=by
 subst hN;have hgo:O g=some .pipes:=h.ob g rfl;have hgl:=hlo g _ hgo;have hb2:∀g',v2.ownBlock=some g'->addO O wr w2 (.pipe k) g'=some (.pipe k):=fun g' hg'=>by have:=ho.lt g' hg';unfold addO;rw[qF ⟨this.1,this.2⟩]
 obtain⟨s2,e2,hso,_⟩:=SOf.of_owns ho hb2;subst e2;have hkl:k<xs.length:=(gSm hx).1;have hg2:addO O wr w2 (.pipe k) g=some .pipes:=(aQ9 hgl.2).trans hgo;have h1:PT w w2 D (.slice (some ⟨g,0,none⟩) xs.length c) xs k X (addO O wr w2 (.pipe k)):=h.keep (fun g' o hg' _=>hle.block g' (hlo g' o hg').2) (fun g' o hg'=>aQ9 (hlo g' o hg').2);obtain⟨s,hs⟩:∃s,X[k]? = some s:=⟨_,gEl (by rw[h.len];exact hkl)⟩
 have hk':∀q k',addO O wr w2 (.pipe k) k'=some (.pipe q)->(w2.setCell ⟨g,k*4,none⟩ (sl x.b s2)).heap[k']? = w2.heap[k']?:=fun q k' hk'=>qJ _ _ _ _ (fun e=>by
  subst e
  rw[hg2]at hk'
  cases hk')
 refine⟨s2,⟨?_,fun g' hg'=>?_,by simpa using h.len,fun q x' s' hq hx' hs'=>?_,fun q x' s' hq hx' hs'=>?_⟩,(hlo.add hle hD _).set _ _⟩
 . have An:(y9 xs X)[k]? = some (K2 x s):=Y5 hx hs;have h2:=J3 h1.own (k*4) (by omega) (sl x.b s2);have f0:=P7 _ k _ (J5 xs X) An 0 (sl x.b s2) (by omega);rw[Nat.add_zero]at f0;have e1:(K2 x s).set 0 (sl x.b s2)=K2 x s2:=rfl;rw[f0,e1]at h2;unfold y9 at h2;rw[ae7,ap5 hx]at h2;exact h2
 . have e1:g=g':=by injection hg'
   subst e1;exact hg2
 .
  by_cases e:q=k
  . subst e;rw[hx]at hx';injection hx' with hx';subst hx';rw[x9 hs]at hs';injection hs' with hs';subst hs';exact ROf.of_sof (hso.keep (hk' q) (fun _ _=>rfl))
  . rw[C4 (fun e2=>e e2.symm)]at hs';exact (h1.bys q x' s' (by omega) hx' hs').keep (hk' q) (fun _ _ _=>rfl)
 . rw[C4 (fun e2=>by omega)]at hs';exact h.rest q x' s' (by omega) hx' hs'
theorem bs3{w:World}{ao:Option Addr}{n cap:Nat}{xs:List SPipe}(h:aa8 w (.slice ao n cap) xs):∃X:List Sl,X.length=xs.length/\(∀a,ao=some a->∀j u,(y9 xs X).flatten[j]? = some u->w.cell? (a.add j)=some u)/\(∀(q:Nat)(x:SPipe)(s:Sl),xs[q]? = some x->X[q]? = some s->Reads w (sl x.b s) x.b.length (x.b.map U))/\(ao=none->n=0):=by
 obtain⟨ao',cap',e,h2,h3,h4⟩:=h;injection e with e1 e2 e3;subst e1 e2;by_cases h0:xs.length=0
 . have:xs=[]:=qn.1 h0;subst this;exact⟨[],rfl,fun a _ j u hu=>by simp[y9]at hu,fun q x s hx=>by simp at hx,fun _=>rfl⟩
 .
  obtain⟨b,off,hao,hc⟩:=h4 h0
  obtain⟨X,hl,hy⟩:=W7 (P:=fun j (x:SPipe) (s:Sl)=>w.cell? ⟨b,off+j*4,none⟩=some (sl x.b s)/\w.cell? ⟨b,off+j*4+1,none⟩=some (.int .i64 x.room)/\w.cell? ⟨b,off+j*4+2,none⟩=some (.bool x.closed)/\w.cell? ⟨b,off+j*4+3,none⟩=some (.bool x.shut)/\Reads w (sl x.b s) x.b.length (x.b.map U)) (fun j x hx=>by
   obtain⟨ab,cb,a0,a1,a2,a3,a4⟩:=hc j x hx
   exact⟨(ab,cb),a0,a1,a2,a3,a4⟩)
  refine⟨X,hl,fun a ha j u hu=>?_,fun q x s hx hs=>(hy q x s hx hs).2.2.2.2,fun h=>by rw[hao]at h;cases h⟩;rw[hao]at ha;injection ha with ha;subst ha;rw[addP];have hjl:j<(y9 xs X).flatten.length:=(gSm hu).1;rw[ai4 _ (J5 xs X)]at hjl;have hrl:(y9 xs X).length=xs.length:=by unfold y9;rw[xg];omega
  rw[hrl]at hjl;obtain⟨x,hx⟩:∃x,xs[j / 4]? = some x:=⟨_,gEl (by omega)⟩;obtain⟨s,hs⟩:∃s,X[j / 4]? = some s:=⟨_,gEl (by omega)⟩;have hj4:j=j / 4*4+j % 4:=by omega
  have hm:j % 4<4:=by omega
  have An:(y9 xs X)[j / 4]? = some (K2 x s):=Y5 hx hs;rw[hj4,Y9 _ _ _ (J5 xs X) An _ hm]at hu;obtain⟨c0,c1,c2,c3,_⟩:=hy _ x s hx hs;have Aq:off+j=off+j / 4*4+j % 4:=by omega
  rw[Aq];generalize j % 4=m at *;generalize j / 4=q at *;have:m=0\/m=1\/m=2\/m=3:=by omega
  rcases this with rfl | rfl | rfl | rfl
  all_goals
   simp[K2]at hu;subst hu;assumption
theorem bi7(xs:List SPipe)(X:List Sl):∀u∈(y9 xs X).flatten,u.oneCell'=true:=by intro u hu;rw[xz]at hu;obtain⟨l,hl,hu⟩:=hu;obtain⟨j,hj⟩:=qb hl;unfold y9 at hj;obtain⟨x,s,_,_,rfl⟩:=zM.1 hj;unfold K2 at hu;simp at hu;rcases hu with rfl | rfl | rfl | rfl <;> rfl
theorem SOf.lift{w:World}{O O':Nat->Option Own}{o:Own}{s:Sl}{b:List UInt8}(h:SOf w O o s b)(hO:∀k o,O k=some o->O' k=some o):SOf w O' o s b:=by
 rcases h with h | ⟨g,off,cur,hs,ho,h1⟩
 . exact .inl h
 . exact .inr ⟨g,off,cur,hs,hO g o ho,h1⟩
theorem SOf.move{w w':World}{O:Nat->Option Own}{o:Own}{s:Sl}{b:List UInt8}(h:SOf w O o s b)(hk:∀k,O k=some o->w'.heap[k]? = w.heap[k]?):SOf w' O o s b:=h.keep hk (fun _ _=>rfl)
theorem CL.keep{w w':World}{B:Nat}{O O':Nat->Option Own}{ro:Own}{bo:Nat->Own}{v:Value}{ss:List Sl}{l:List (List UInt8)}(h:CL w B O ro bo v ss l)(hk:∀g o,O g=some o->(o=ro\/∃j,o=bo j)->w'.heap[g]? = w.heap[g]?)(hO:∀g o,O g=some o->O' g=some o):CL w' B O' ro bo v ss l:=
 ⟨l6 h.own (fun g hg=>hk g _ (h.ob g hg) (.inl rfl)),fun g hg=>hO g _ (h.ob g hg),h.len,fun j b s hb hs=>((h.bys j b s hb hs).move (fun g hg=>hk g _ hg (.inr ⟨j,rfl⟩))).lift hO⟩
theorem CL.lower{w:World}{B B':Nat}{O:Nat->Option Own}{ro:Own}{bo:Nat->Own}{v:Value}{ss:List Sl}{l:List (List UInt8)}(h:CL w B O ro bo v ss l)(hB:B'<=B):CL w B' O ro bo v ss l:=by
 refine⟨⟨h.own.1,?_⟩,h.ob,h.len,h.bys⟩;rcases h.own.2 with h0 | ⟨g,cap,cur,e,hb,h1⟩
 . exact .inl h0
 . exact .inr ⟨g,cap,cur,e,by omega,h1⟩
structure QT (w wr:World) (D:Nat) (v:Value) (ps:List SProc) (k:Nat) (P:List PSlot) (O:Nat->Option Own):Prop where
 own:wr.ownsRow D 76 5 v ps.length (v6 ps P).flatten
 ob:R7 O v .procs
 len:P.length=ps.length
 bys:∀(i:Nat)(p:SProc)(s:PSlot),i<k->ps[i]? = some p->P[i]? = some s->CL wr D O (.gots i) (Own.got i) s.gv s.gs p.got/\CL wr D O (.outs i) (Own.out i) s.ov s.os p.out
 rest:∀(i:Nat)(p:SProc)(s:PSlot),k<=i->ps[i]? = some p->P[i]? = some s->RList w s.gv U p.got/\RList w s.ov U p.out
theorem QT.keep{w wr w':World}{D:Nat}{v:Value}{ps:List SProc}{k:Nat}{P:List PSlot}{O O':Nat->Option Own}(h:QT w wr D v ps k P O)(hk:∀g o,O g=some o->w'.heap[g]? = wr.heap[g]?)(hO:∀g o,O g=some o->O' g=some o):QT w w' D v ps k P O':=
 ⟨l6 h.own (fun g hg=>hk g _ (h.ob g hg)),fun g hg=>hO g _ (h.ob g hg),h.len,fun i p s hi hp hs=>⟨(h.bys i p s hi hp hs).1.keep (fun g o hg _=>hk g o hg) hO,(h.bys i p s hi hp hs).2.keep (fun g o hg _=>hk g o hg) hO⟩,h.rest⟩
theorem QT.step{w wr:World}{D g c N:Nat}{ps:List SProc}{k:Nat}{P:List PSlot}{O:Nat->Option Own}(hN:N=ps.length)(h:QT w wr D (.slice (some ⟨g,0,none⟩) N c) ps k P O){p:SProc}(hp:ps[k]? = some p){gv ov:Value}{gs os:List Sl}
 (h1:CL wr D O (.gots k) (Own.got k) gv gs p.got) (h2:CL wr D O (.outs k) (Own.out k) ov os p.out):
 QT w ((wr.setCell ⟨g,k*5,none⟩ gv).setCell ⟨g,k*5+2,none⟩ ov) D (.slice (some ⟨g,0,none⟩) N c) ps (k+1) (P.set k ⟨gv,ov,gs,os⟩) O:=by
 subst hN;have hgo:O g=some .procs:=h.ob g rfl;have hkl:k<ps.length:=(gSm hp).1;obtain⟨s,hs⟩:∃s,P[k]? = some s:=⟨_,gEl (by rw[h.len];exact hkl)⟩;have hk':∀o k',o≠Own.procs->O k'=some o->((wr.setCell ⟨g,k*5,none⟩ gv).setCell ⟨g,k*5+2,none⟩ ov).heap[k']? = wr.heap[k']?:=fun o k' ho hk'=>by
  have hne:k'≠g:=fun e=>by subst e;rw[hgo]at hk';injection hk' with hk';exact ho hk'.symm
  rw[qJ _ _ _ _ hne,qJ _ _ _ _ hne]
 have kc:∀{ro:Own}{bo:Nat->Own}{v:Value}{ss:List Sl}{l:List (List UInt8)},ro≠Own.procs->(∀j,bo j≠Own.procs)->CL wr D O ro bo v ss l->CL ((wr.setCell ⟨g,k*5,none⟩ gv).setCell ⟨g,k*5+2,none⟩ ov) D O ro bo v ss l:=fun hr hb hc=>hc.keep (fun g' o hg' hx=>hk' o g' (by rcases hx with rfl | ⟨j,rfl⟩;exact hr;exact hb j) hg') (fun _ _ h=>h);refine⟨?_,h.ob,by simpa using h.len,fun i p' s' hi hp' hs'=>?_,fun i p' s' hi hp' hs'=>?_⟩
 .
  have An:(v6 ps P)[k]? = some (H3 p s):=Y5 hp hs;have k0:=J3 h.own (k*5) (by omega) gv;have k1:=J3 k0 (k*5+2) (by omega) ov;have f0:=P7 _ k _ (J6 ps P) An 0 gv (by omega);rw[Nat.add_zero]at f0;rw[f0]at k1;have hl1:∀r∈(v6 ps P).set k ((H3 p s).set 0 gv),r.length=5:=fun r hr=>by
   rcases xm hr with h | h
   . exact J6 ps P r h
   . rw[h];rfl
  rw[P7 _ k _ hl1 (x9 An) 2 ov (by omega),ze]at k1;have e1:((H3 p s).set 0 gv).set 2 ov=H3 p ⟨gv,ov,gs,os⟩:=rfl;rw[e1]at k1;unfold v6 at k1;rw[ae7,ap5 hp]at k1;exact k1
 .
  by_cases e:i=k
  . subst e;rw[hp]at hp';injection hp' with hp';subst hp';rw[x9 hs]at hs';injection hs' with hs';subst hs';exact⟨kc (by simp) (by simp) h1,kc (by simp) (by simp) h2⟩
  . rw[C4 (fun e2=>e e2.symm)]at hs';obtain⟨q1,q2⟩:=h.bys i p' s' (by omega) hp' hs';exact⟨kc (by simp) (by simp) q1,kc (by simp) (by simp) q2⟩
 . rw[C4 (fun e2=>by omega)]at hs';exact h.rest i p' s' (by omega) hp' hs'
theorem bs4{w:World}{ao:Option Addr}{n cap:Nat}{ps:List SProc}(h:U2 w (.slice ao n cap) ps):∃P:List PSlot,P.length=ps.length/\(∀a,ao=some a->∀j u,(v6 ps P).flatten[j]? = some u->w.cell? (a.add j)=some u)/\(∀(i:Nat)(p:SProc)(s:PSlot),ps[i]? = some p->P[i]? = some s->RList w s.gv U p.got/\RList w s.ov U p.out)/\(ao=none->n=0)/\∀u∈(v6 ps P).flatten,u.oneCell'=true:=by
 obtain⟨ao',cap',e,h2,h3,h4⟩:=h;injection e with e1 e2 e3;subst e1 e2;by_cases h0:ps.length=0
 . have:ps=[]:=qn.1 h0;subst this;exact⟨[],rfl,fun a _ j u hu=>by simp[v6]at hu,fun q x s hx=>by simp at hx,fun _=>rfl,fun u hu=>by simp[v6]at hu⟩
 .
  obtain⟨b,off,hao,hc⟩:=h4 h0
  obtain⟨P,hl,hy⟩:=W7 (P:=fun j (p:SProc) (s:PSlot)=>(∃ag cg ab cb,s.gv=.slice ag p.got.length cg/\s.ov=.slice ab p.out.length cb)/\w.cell? ⟨b,off+j*5,none⟩=some s.gv/\w.cell? ⟨b,off+j*5+1,none⟩=some (.int .i64 p.pos)/\w.cell? ⟨b,off+j*5+2,none⟩=some s.ov/\w.cell? ⟨b,off+j*5+3,none⟩=some (.bool p.rd)/\w.cell? ⟨b,off+j*5+4,none⟩=some (.bool p.ov)/\RList w s.gv U p.got/\RList w s.ov U p.out) (fun j x hx=>by
   obtain⟨ag,cg,ab,cb,a0,a1,a2,a3,a4,a5,a6⟩:=hc j x hx
   exact⟨⟨.slice ag x.got.length cg,.slice ab x.out.length cb,[],[]⟩,⟨ag,cg,ab,cb,rfl,rfl⟩,a0,a1,a2,a3,a4,a5,a6⟩)
  refine⟨P,hl,fun a ha j u hu=>?_,fun q x s hx hs=>(hy q x s hx hs).2.2.2.2.2.2,fun h=>(by rw[hao]at h;cases h),fun u hu=>?_⟩
  .
   rw[hao]at ha;injection ha with ha;subst ha;rw[addP];have hjl:j<(v6 ps P).flatten.length:=(gSm hu).1;rw[ai4 _ (J6 ps P)]at hjl;have hrl:(v6 ps P).length=ps.length:=by unfold v6;rw[xg];omega
   rw[hrl]at hjl;obtain⟨x,hx⟩:∃x,ps[j / 5]? = some x:=⟨_,gEl (by omega)⟩;obtain⟨s,hs⟩:∃s,P[j / 5]? = some s:=⟨_,gEl (by omega)⟩;have hj4:j=j / 5*5+j % 5:=by omega
   have hm:j % 5<5:=by omega
   have An:(v6 ps P)[j / 5]? = some (H3 x s):=Y5 hx hs;rw[hj4,Y9 _ _ _ (J6 ps P) An _ hm]at hu;obtain⟨_,c0,c1,c2,c3,c4,_⟩:=hy _ x s hx hs;have Aq:off+j=off+j / 5*5+j % 5:=by omega
   rw[Aq];generalize j % 5=m at *;generalize j / 5=q at *;have:m=0\/m=1\/m=2\/m=3\/m=4:=by omega
   rcases this with rfl | rfl | rfl | rfl | rfl
   all_goals
    simp[H3]at hu;subst hu;assumption
  .
   rw[xz]at hu;obtain⟨l,hl2,hu⟩:=hu;obtain⟨j,hj⟩:=qb hl2;unfold v6 at hj;obtain⟨x,s,hx,hs,rfl⟩:=zM.1 hj;obtain⟨⟨ag,cg,ab,cb,e1,e2⟩,_⟩:=hy j x s hx hs;unfold H3 at hu;simp at hu;rcases hu with rfl | rfl | rfl | rfl | rfl
   . rw[e1];rfl
   . rfl
   . rw[e2];rfl
   . rfl
   . rfl
def af0(O OL:Nat->Option Own)(w:World)(k:Nat):Option Own:=if k<w.heap.size then O k else OL k
theorem ai9{O OL:Nat->Option Own}{D:Nat}{w:World}(h:OLo O D w):∀k o,O k=some o->af0 O OL w k=some o:=fun k o hk=>by
 unfold af0
 rw[qF (h k o hk).2]
 exact hk
theorem ba9{O OL:Nat->Option Own}{w w':World}(h:OLo OL w.heap.size w'):∀k o,OL k=some o->af0 O OL w k=some o:=fun k o hk=>by
 unfold af0
 rw[qA (by have:=h k o hk;omega)]
 exact hk
theorem OLo.join{O OL:Nat->Option Own}{D:Nat}{w w':World}(h:OLo O D w)(h2:OLo OL w.heap.size w')(hD:D<=w.heap.size)(hs:w.heap.size<=w'.heap.size):OLo (af0 O OL w) D w':=by
 intro g o hg;unfold af0 at hg;split at hg
 . have:=h g o hg;omega
 . have:=h2 g o hg;omega
structure Raw (w:World) (D:Nat) (O:Nat->Option Own) (d:RD):Prop where
 lo:OLo O D w
 none:∀g,O g≠some .box/\O g≠some .aux
 base:∃w0:World,w0.heap.size=D/\Below D w0 w/\D4 w0 d.vN d.M.ns/\j6 w0 d.vF d.M.fs
 xlen:d.X.length=d.M.pipes.length
 plen:d.P.length=d.M.ps.length
 slen:∀(i:Nat)(p:SProc)(s:PSlot),d.M.ps[i]? = some p->d.P[i]? = some s->s.gs.length=p.got.length/\s.os.length=p.out.length
 part:∀o,o≠Own.box->o≠Own.aux->Part w D 0 O (fun _ _=>True) d o
theorem cq7{w w2 wF:World}{D:Nat}{M:SMach}{vN vF vX vP:Value}{X:List Sl}{P:List PSlot}{sS:Sl}{O:Nat->Option Own}{bm B B':Nat}{rN:List NRow}{rF:List FRow}
 (hlo:OLo O D wF) (hno:∀g,O g≠some .box/\O g≠some .aux) (hD:w2.heap.size=D) (Aq:OffB bm w2 wF) (hBb:bm+2<=B) (hN:NO w2 B bm (brX bm) 73 vN rN) (hNe:rN.map (·.1)=M.ns) (hF:FO2 w2 B' bm vF rF) (hFe:rF.map (·.1)=M.fs)
 (hX:PT w wF D vX M.pipes M.pipes.length X O) (hP:QT w wF D vP M.ps M.ps.length P O) (hS:SOf wF O .sunk sS M.sunk) (vI vM:Value):Raw wF D O ⟨M,vN,vF,vX,vP,vI,vM,sS,X,P⟩:=by
 have hDs:D<=wF.heap.size:=by have:=Aq.size;omega
 have h0:=bT5 Aq;rw[hD]at h0;refine⟨hlo,hno,⟨cutH wF D,ai8 hDs,aQ7 hDs,?_,?_⟩,hX.len,hP.len,fun i p s hp hs=>?_,fun o h1 h2=>?_⟩
 . have:=(NO.off hN hBb h0).nodes;rw[hNe]at this;exact this
 . have:=(hF.off' h0).fo.files;rw[hFe]at this;exact this
 . have:=hP.bys i p s (gSm hp).1 hp hs;exact⟨this.1.len,this.2.len⟩
 .
  cases o using Own.elimE with
  | box=>exact absurd rfl h1
  | aux=>exact absurd rfl h2
  | pipes=>exact⟨hX.own,hX.ob⟩
  | procs=>exact⟨hP.own,hP.ob⟩
  | gots i=>exact fun p s hp hs=>⟨(hP.bys i p s (gSm hp).1 hp hs).1.own,(hP.bys i p s (gSm hp).1 hp hs).1.ob⟩
  | outs i=>exact fun p s hp hs=>⟨(hP.bys i p s (gSm hp).1 hp hs).2.own,(hP.bys i p s (gSm hp).1 hp hs).2.ob⟩
  | pipe q=>exact fun x s hx hs=>hX.bys q x s (gSm hx).1 hx hs
  | got i j=>exact fun p s b a hp hs hb ha=>(hP.bys i p s (gSm hp).1 hp hs).1.bys j b a hb ha
  | out i j=>exact fun p s b a hp hs hb ha=>(hP.bys i p s (gSm hp).1 hp hs).2.bys j b a hb ha
  | sunk=>exact hS
def aE3(ps:List (Int × Int)):List Value:=(ps.map (fun p=>[Value.int .i64 p.1,Value.int .i64 p.2])).flatten
theorem av0(ps:List (Int × Int)):(aE3 ps).length=ps.length*2:=by unfold aE3;rw[ai4 (k:=2) _ (fun r hr=>by obtain⟨p,_,rfl⟩:=qg.1 hr;rfl),qM]
theorem aE4(ps:List (Int × Int))(j:Nat)(p:Int × Int)(h:ps[j]? = some p)(i:Nat)(hi:i<2):(aE3 ps)[j*2+i]? = [Value.int .i64 p.1,Value.int .i64 p.2][i]?:=
 Y9 (k:=2) _ j _ (fun r hr=>by obtain⟨p,_,rfl⟩:=qg.1 hr;rfl) (by rw[qQ,h];rfl) i hi
theorem bE9(ai:Option Addr)(ci:Nat)(ps:List (Int × Int))(w:World)(h:F2 w (.slice ai ps.length ci) ps)(hl:ps.length<=100000):
 Calls prog 123 #[.slice ai ps.length ci] w fun e w'=>∃a2 c2,e=.returned (.slice a2 ps.length c2)/\F2 w' (.slice a2 ps.length c2) ps/\(∀a,a2=some a->w.heap.size<=a.block)/\Bq w w':=by
 obtain⟨ao',cap',e,h2,h3,h4⟩:=h;injection e with e1 e2 e3;subst e1 e3;refine (bh4 ai ps.length ci (aE3 ps) w (av0 ps) hl (fun h0=>?_) (fun a ha j u hu=>?_) (fun u hu=>?_)).mono ?_
 .
  by_cases hn:ps.length=0
  . exact hn
  . obtain⟨b,off,e,_⟩:=h4 hn;rw[h0]at e
    cases e
 .
  have hjl:j<(aE3 ps).length:=(gSm hu).1;rw[av0]at hjl;obtain⟨b,off,e,hc⟩:=h4 (by omega);rw[ha]at e;injection e with e;subst e;rw[addP];obtain⟨p,hp⟩:∃p,ps[j / 2]? = some p:=⟨_,gEl (by omega)⟩;have hj:j=j / 2*2+j % 2:=by omega
  rw[hj,aE4 ps _ p hp _ (by omega)]at hu;obtain⟨c0,c1⟩:=hc _ p hp;have Aq:off+j=off+j / 2*2+j % 2:=by omega
  rw[Aq];have hm:j % 2<2:=by omega
  generalize j % 2=m at *;generalize j / 2=q at *;have:m=0\/m=1:=by omega
  rcases this with rfl | rfl
  all_goals
   simp at hu;subst hu;assumption
 . unfold aE3 at hu;rw[xz]at hu;obtain⟨l,hl2,hu⟩:=hu;obtain⟨p,_,rfl⟩:=qg.1 hl2;simp at hu;rcases hu with rfl | rfl <;> rfl
 .
  rintro e w'⟨v',rfl,Ab,hb⟩;rcases id Ab.2 with⟨rfl,h0⟩|⟨g,cap,cur,rfl,hB,hg,q1,q2,q3,q4⟩
  . refine⟨none,0,by rw[h0],⟨none,0,by rw[h0],by omega,by simp[maxLen],fun hn=>absurd h0 hn⟩,fun a h=>(by cases h),hb⟩
  . refine⟨some ⟨g,0,none⟩,cap,rfl,⟨_,cap,rfl,q1,q2,fun hn=>⟨g,0,rfl,fun j p hp=>?_⟩⟩,fun a h=>(by injection h with h;subst h;exact hB),hb⟩;have hjl:j<ps.length:=(gSm hp).1;rw[qa];have c0:=Ab.cellAt (j*2) (by omega);have c1:=Ab.cellAt (j*2+1) (by omega);have d0:=aE4 ps j p hp 0 (by omega);rw[Nat.add_zero]at d0;rw[d0]at c0;rw[aE4 ps j p hp 1 (by omega)]at c1;exact⟨c0,c1⟩
theorem A3{w:World}{k:Nat}{a b c d e:Value}{t:TypeId}(h:w.heap[k]? = some (.cells #[a,b,c,d,e] t (0,0))):
 w.cell? ⟨k,0,none⟩=some a/\w.cell? ⟨k,1,none⟩=some b/\w.cell? ⟨k,2,none⟩=some c/\w.cell? ⟨k,3,none⟩=some d/\w.cell? ⟨k,4,none⟩=some e/\∀j,w.frozen? ⟨k,j,none⟩=false:=by
 refine⟨?_,?_,?_,?_,?_,fun j=>xK _ _ _ _ _ h⟩
 all_goals
  rw[qV _ _ _ _ _ _ h];rfl
def BX(w:World)(bm:Nat)(a b c d e:Value):Prop:=w.heap[bm]? = some (.cells #[a,b,c,d,e] 30 (0,0))/\w.heap[bm+1]? = some (.cells #[.slice none 0 0,.slice none 0 0,.slice none 0 0,.slice none 0 0,.slice none 0 0] 30 (0,0))
theorem BX.keep{w w':World}{bm:Nat}{a b c d e:Value}(h:BX w bm a b c d e)(hk:∀k,k=bm\/k=bm+1->w'.heap[k]? = w.heap[k]?):BX w' bm a b c d e:=⟨(hk _ (.inl rfl)).trans h.1,(hk _ (.inr rfl)).trans h.2⟩
theorem BX.lt{w:World}{bm:Nat}{a b c d e:Value}(h:BX w bm a b c d e):bm+1<w.heap.size:=(aSm h.2).1
theorem BX.below{w w':World}{bm:Nat}{a b c d e:Value}(h:BX w bm a b c d e)(hb:Bq w w'):BX w' bm a b c d e:=h.keep (fun k hk=>hb.block k (by have:=h.lt;omega))
theorem BX.other{w:World}{bm:Nat}{a b c d e:Value}(h:BX w bm a b c d e){p:Addr}{v:Value}(hp:bm+1<p.block):BX (w.setCell p v) bm a b c d e:=h.keep (fun k hk=>qJ _ _ _ _ (by omega))
theorem BX.set{w:World}{bm:Nat}{cur:Array Value}{a b c d e:Value}{j:Nat}{v:Value}(h:w.heap[bm]? = some (.cells cur 30 (0,0)))(h2:w.heap[bm+1]? = some (.cells #[.slice none 0 0,.slice none 0 0,.slice none 0 0,.slice none 0 0,.slice none 0 0] 30 (0,0)))(hc:cur.setIfInBounds j v=#[a,b,c,d,e]):BX (w.setCell ⟨bm,j,none⟩ v) bm a b c d e:=by refine⟨?_,(qJ _ _ _ _ (by simp)).trans h2⟩;rw[zL w bm j cur _ (0,0) v h,<- hc];exact zV w bm cur _ _ _ h
theorem ce2{rows:List FRow}{k:Nat}{r r':FRow}(h:rows[k]? = some r)(e:r'.1=r.1):(rows.set k r').map (·.1)=rows.map (·.1):=by rw[List.map_set,e];exact ap5 (by rw[qQ,h];rfl)
def NoBA(O:Nat->Option Own):Prop:=∀g,O g≠some .box/\O g≠some .aux
theorem NoBA.add{O:Nat->Option Own}(h:NoBA O)(w w':World){o:Own}(h1:o≠Own.box)(h2:o≠Own.aux):NoBA (addO O w w' o):=by
 intro g;unfold addO;split
 . exact⟨fun e=>h1 (by injection e),fun e=>h2 (by injection e)⟩
 . exact h g
theorem NoBA.join{O OL:Nat->Option Own}(h:NoBA O){ro:Own}{bo:Nat->Own}(hv:∀g o,OL g=some o->o=ro\/∃j,o=bo j)(h1:ro≠Own.box/\ro≠Own.aux)(h2:∀j,bo j≠Own.box/\bo j≠Own.aux)(w:World):NoBA (af0 O OL w):=by
 intro g;unfold af0;split
 . exact h g
 .
  refine⟨fun e=>?_,fun e=>?_⟩
  . rcases hv g _ e with e1 | ⟨j,e1⟩
    . exact h1.1 e1.symm
    . exact (h2 j).1 e1.symm
  . rcases hv g _ e with e1 | ⟨j,e1⟩
    . exact h1.2 e1.symm
    . exact (h2 j).2 e1.symm
theorem aU9{fn:Func}{p:Tmp}{ty:TypeId}(h:fn.results=#[.cell p ty])(tmps:Array Value)(P:Program)(w:World):
 (results fn tmps).run P w=((asAddr (tmps.getD p undef)).run P w).andThen fun a w₁=>(loadVar ty a).run P w₁:=by simp only[results,h];simp[Sem.run_bind,Result.andThen]
def rowO(v:Value)(o:Own)(O:Nat->Option Own)(k:Nat):Option Own:=if some k=v.ownBlock then some o else O k
theorem bs5(v:Value)(o:Own)(O:Nat->Option Own):R7 (rowO v o O) v o:=fun g hg=>by unfold rowO;rw[qF hg.symm]
theorem bJ4{v:Value}{o:Own}{O:Nat->Option Own}{D:Nat}{w w':World}(h:OLo O D w)(hv:∀g,v.ownBlock=some g->D<=g/\g<w'.heap.size)(hs:w.heap.size<=w'.heap.size):OLo (rowO v o O) D w':=by
 intro g o' hg;unfold rowO at hg;split at hg
 . rename_i e;exact hv g e.symm
 . have:=h g o' hg;omega
theorem bs6{v:Value}{o:Own}{O:Nat->Option Own}(h:NoBA O)(h1:o≠Own.box)(h2:o≠Own.aux):NoBA (rowO v o O):=by
 intro g;unfold rowO;split
 . exact⟨fun e=>h1 (by injection e),fun e=>h2 (by injection e)⟩
 . exact h g
theorem ce3{v:Value}{o:Own}{O:Nat->Option Own}{D:Nat}{w:World}(h:OLo O D w)(hv:∀g,v.ownBlock=some g->w.heap.size<=g):∀g o',O g=some o'->rowO v o O g=some o':=by
 intro g o' hg;unfold rowO;rw[qA]
 . exact hg
 . intro e;have:=hv g e.symm;have:=(h g o' hg).2;omega
def noO(k:Nat):Option Own:=none
theorem cq8(D:Nat)(w:World):OLo noO D w:=fun g o hg=>by cases hg
theorem cm5:NoBA noO:=fun g=>⟨fun e=>(by cases e),fun e=>(by cases e)⟩
structure SmallC (M:SMach):Prop where
 ns:M.ns.length<=100000
 fs:M.fs.length<=100000
 xs:M.pipes.length<=100000
 ps:M.ps.length<=100000
 sunk:M.sunk.length<=100000
 ins:∀n∈M.ns,n.ins.length<=100000
 fb:∀f∈M.fs,f.b.length<=100000
 xb:∀x∈M.pipes,x.b.length<=100000
 pl:∀p∈M.ps,p.got.length<=100000/\p.out.length<=100000/\(∀b∈p.got,b.length<=100000)/\∀b∈p.out,b.length<=100000
theorem cm6{rows:List NRow}{k:Nat}{r r':NRow}(h:rows[k]? = some r)(e:r'.1=r.1):(rows.set k r').map (·.1)=rows.map (·.1):=by rw[List.map_set,e];exact ap5 (by rw[qQ,h];rfl)
theorem aR0{w:World}{B B':Nat}{e:TypeId}{size n:Nat}{v:Value}{xs:List Value}(h:w.ownsRow B e size v n xs)(hB:B'<=B):w.ownsRow B' e size v n xs:=by
 refine⟨h.1,?_⟩;rcases h.2 with h0 | ⟨g,cap,cur,e1,hb,h1⟩
 . exact .inl h0
 . exact .inr ⟨g,cap,cur,e1,by omega,h1⟩
theorem al4{w w':World}{g j:Nat}(hb:Bq w w')(hg:g<w.heap.size)(h:w.frozen? ⟨g,j,none⟩=false):w'.frozen? ⟨g,j,none⟩=false:=by have:=hb.block g hg;simp only[World.frozen?]at h ⊢;rw[this];exact h
theorem bb4{bm j1 j2 g off BL:Nat}{v1 v3:Value}{fa:Option Addr}{fc:Nat}{b:List UInt8}{wr:World}(hBL:BL=b.length)(hrd:Reads wr (.slice fa b.length fc) b.length (b.map U))(hl:b.length<=100000)(x1:wr.cell? ⟨bm,j1,none⟩=some v1)(c1:wr.cell? ⟨g,off,none⟩=some v3)(f1:wr.frozen? ⟨g,off,none⟩=false):
 ∀W,Bq wr W->W.cell? ⟨wr.heap.size,j2,none⟩=some (.slice fa BL fc)->Calls prog 125 #[.slice fa BL fc] W fun e w'=>∃a2 c2,e=.returned (.slice a2 BL c2)/\w'.cell? ⟨bm,j1,none⟩=some v1/\w'.cell? ⟨wr.heap.size,j2,none⟩=some (.slice fa BL fc)/\w'.cell? ⟨g,off,none⟩=some v3/\w'.frozen? ⟨g,off,none⟩=false/\Hid (w'.ownsRow wr.heap.size 5 1 (.slice a2 BL c2) BL (b.map U)/\Bq wr w'):=by intro W hW h7;subst hBL;refine (bi6 fa fc b W (hrd.below hW) hl).mono ?_;rintro e w'⟨v',rfl,Ab,hb⟩;obtain⟨⟨a2,c2,hv,_,_⟩,_⟩:=j5 Ab;subst hv;have hB:=hW.trans (hb.mono hW.size);exact⟨a2,c2,rfl,qC hB x1,qC hb h7,qC hB c1,al4 hB (bLt wr _ c1) f1,⟨aR0 Ab hW.size,hB⟩⟩
theorem bb5{bm j1 g o1 o2 GL:Nat}{v1 v3 v4 u1 u2:Value}{fa:Option Addr}{fc:Nat}{l:List (List UInt8)}{wr:World}(ro:Own)(bo:Nat->Own)(hne:∀j,bo j≠ro)(hGL:GL=l.length)(hrd:RList wr (.slice fa l.length fc) U l)(hn:l.length<=100000)(hl:∀b∈l,b.length<=100000)(x1:wr.cell? ⟨bm,j1,none⟩=some v1)(c1:wr.cell? ⟨g,o1,none⟩=some v3)(f1:wr.frozen? ⟨g,o1,none⟩=false)(c2:wr.cell? ⟨g,o2,none⟩=some v4)(f2:wr.frozen? ⟨g,o2,none⟩=false):
 ∀W,Bq wr W->W.cell? ⟨wr.heap.size,0,none⟩=some u1->W.cell? ⟨wr.heap.size,2,none⟩=some u2->Calls prog 128 #[.slice fa GL fc] W fun e w'=>∃a2 d2,e=.returned (.slice a2 GL d2)/\w'.cell? ⟨bm,j1,none⟩=some v1/\w'.cell? ⟨wr.heap.size,0,none⟩=some u1/\w'.cell? ⟨wr.heap.size,2,none⟩=some u2/\w'.cell? ⟨g,o1,none⟩=some v3/\w'.frozen? ⟨g,o1,none⟩=false/\w'.cell? ⟨g,o2,none⟩=some v4/\w'.frozen? ⟨g,o2,none⟩=false/\Hid (∃ss OL,CL w' wr.heap.size OL ro bo (.slice a2 GL d2) ss l/\OLo OL wr.heap.size w'/\OLo OL W.heap.size w'/\∀g o,OL g=some o->o=ro\/∃j,o=bo j)/\Hid (Bq W w')/\Hid (Bq wr w'):=by intro W hW h0 h2;subst hGL;refine (bE8 ro bo hne fa fc l W (hrd.below hW) hn hl).mono ?_;rintro e w'⟨v',ss,OL,rfl,hc,hlo,hb⟩;obtain⟨⟨a2,d2,hv,_,_⟩,_⟩:=j5 hc.own;subst hv;have hB:=hW.trans (hb.mono hW.size);exact⟨a2,d2,rfl,qC hB x1,qC hb h0,qC hb h2,qC hB c1,al4 hB (bLt wr _ c1) f1,qC hB c2,al4 hB (bLt wr _ c2) f2,(show ∃ss OL,_ from ⟨ss,OL,hc.lower hW.size,fun g o hg=>(by have:=hlo.1 g o hg;have:=hW.size;omega),hlo.1,hlo.2⟩),hb,hB⟩
theorem bJ5:∀(x y:List UInt8),Op.bytesLess x y=decide (x<y)
 | [],[]=>by simp[Op.bytesLess]
 | _::_,[]=>by simp[Op.bytesLess]
 | [],_::_=>by simp[Op.bytesLess]
 | a::x,b::y=>by
  rw[Op.bytesLess,bJ5 x y]
  simp only[zY]
  by_cases h1:a<b <;> by_cases h2:a=b <;> by_cases h3:x<y <;> simp[h1,h2,h3]
theorem aj0{sx:ByteArray}{l:List UInt8}(h:Value.string sx=S l):sx.toList=l:=by unfold S at h;injection h with h;rw[h,ByteArray.toList_eq]
theorem cm7{sx tx:ByteArray}{x t:List UInt8}(hs:Value.string sx=S x)(ht:Value.string tx=S t):Op.bytesLess sx.toList tx.toList=decide (x<t):=by rw[aj0 hs,aj0 ht,bJ5]
theorem bs7{B:Nat}{a w:World}(h:Below B a w)(q:Nat):Below B a (w.drewN q):=⟨h.os,h.tape,h.output,h.size,h.block⟩
def lix:Option (Nat × List UInt8)->Int
 | none=>-1
 | some (j,_)=>(j:Int)
theorem bs8{ps:List (List (List UInt8))}{k:Nat}(h:ps[k]? = some []):E0 ps (k+1)=E0 ps k:=by simp[E0,h]
theorem aV0{ps:List (List (List UInt8))}{k:Nat}{x:List UInt8}{r:List (List UInt8)}(h:ps[k]? = some (x::r))(hn:E0 ps k=none):E0 ps (k+1)=some (k,x):=by simp[E0,h,hn]
theorem bi8{ps:List (List (List UInt8))}{k j:Nat}{x t:List UInt8}{r:List (List UInt8)}(h:ps[k]? = some (x::r))(hn:E0 ps k=some (j,t))(hl:x<t):E0 ps (k+1)=some (k,x):=by simp[E0,h,hn,hl]
theorem bi9{ps:List (List (List UInt8))}{k j:Nat}{x t:List UInt8}{r:List (List UInt8)}(h:ps[k]? = some (x::r))(hn:E0 ps k=some (j,t))(hl:¬x<t):E0 ps (k+1)=some (j,t):=by simp[E0,h,hn,hl]
theorem bF0{ps:List (List (List UInt8))}{k j:Nat}{t:List UInt8}(h:E0 ps k=some (j,t)):j<k/\∃r,ps[j]? = some (t::r):=by
 obtain⟨h1,h2,_⟩:=ax2 ps k j t h;refine⟨h1,?_⟩
 cases hp:ps[j]? with
 | none=>rw[hp]at h2;cases h2
 | some p=>
  rw[hp]at h2
  cases p with
  | nil=>cases h2
  | cons x r=>
   simp only[Option.bind_some,zO,qW]at h2
   exact⟨r,by rw[h2]⟩
theorem af1{w:World}{au:Option Addr}{cu:Nat}{x:List UInt8}{r:List (List UInt8)}(h:Reads w (.slice au (x::r).length cu) (x::r).length ((x::r).map S)):
 ∃b off sx,au=some ⟨b,off,none⟩/\w.cell? ⟨b,off,none⟩=some (.string sx)/\Value.string sx=S x/\cu<=9223372036854775807/\(x::r).length<=cu:=by obtain⟨_,ao,cap,e,h1,h2,h5⟩:=h;injection e with e1 e2 e3;subst e1 e3;obtain⟨b,off,hao,hc⟩:=h5 (by simp);refine⟨b,off,⟨x.toArray⟩,hao,?_,rfl,by simpa[maxLen]using h2,h1⟩;have:=hc 0 (S x) (by simp);exact this
theorem ce4(v:Value)(ps:List (List (List UInt8)))(w:World)(hp:RList w v S ps)(hn:ps.length<=1000):
 Calls prog 252 #[v] w fun e w'=>e=.returned (.int .i64 (lix (least ps)))/\∃q,w'=w.drewN q:=by
 obtain⟨ao,cap,rfl,hc1,hc2⟩:=hp.shape;have HP:=qH hp;obtain⟨N,hN⟩:=qE ps.length;have HN:=qH hN;have hN4:N<=1000:=by omega
 have hcN:N<=cap:=by omega
 have hcm:cap<=9223372036854775807:=by simpa[maxLen]using hc2
 rw[<- hN];clear hN hp hn hc1 hc2;go_enter Tryz.func252,Tryz.ntmps252;go_wp2_with fail
 go_loopw [3,8] (fun s i wr=>∃k:Nat,∃z:Int,k<=N/\i=.int .i64 k/\s=.int .i64 z/\(∃q,wr=w.drewN q)/\Hid (z=lix (E0 ps k)))
  (fun _ i _=>N-(intOf i).toNat)
 case atStart=>exact⟨0,-1,qP _,rfl,rfl,⟨0,rfl⟩,(show _=_ from rfl)⟩
 case round=>
  obtain⟨k,z,hk,rfl,rfl,⟨q0,hw⟩,hz⟩:=hrel;have HPr:Hid (RList wr (.slice ao N cap) S ps):=by rw[hw,HN.out];exact HP.out.below (bs7 (qI _ _) _)
  have HW:=qH hw;clear hw;by_cases hlt:k<N
  .
   obtain⟨p,hpk⟩:∃p,ps[k]? = some p:=⟨_,gEl (by have:=HN.out;omega)⟩;obtain⟨b,off,au,cu,rfl,Ac,hru⟩:=HPr.out.at hpk
   cases p with
   | nil=>
    have HL:Hid _:=bs8 hpk
    simp only[qy]at Ac
    clear hpk hru
    go_wp2_with fail
    go_quiet (fail)
    go_wp2_with fail
    go_roundw
    case rel=>exact⟨k+1,z,by omega,by go_num,rfl,⟨_,by rw[HW.out,World.drewN_drewN]⟩,(show _=_ from by rw[HL.out];exact hz.out)⟩
    case measure=>simp[intOf];omega
   | cons x r=>
    obtain⟨b1,o1,sx,rfl,hc1,hsx,hcu1,Pm⟩:=af1 hru
    have Hsx:Hid _:=hsx
    have hpl:(x::r).length=r.length+1:=rfl
    rw[hpl]at Ac Pm
    clear hsx hru hpl
    generalize r.length=rl at *
    cases hlk:E0 ps k with
    | none=>
     have HL:Hid _:=aV0 hpk hlk
     obtain rfl:z = -1:=by rw[hz.out,hlk];rfl
     clear hpk hlk
     go_wp2_with fail
     go_quiet (fail)
     go_wp2_with fail
     go_roundw
     case rel=>exact⟨k+1,k,by omega,by go_num,rfl,⟨_,by rw[HW.out,World.drewN_drewN]⟩,(show _=_ from by rw[HL.out];rfl)⟩
     case measure=>simp[intOf];omega
    | some jt=>
     obtain⟨j,t⟩:=jt
     obtain⟨hjk,r',hpj⟩:=bF0 hlk
     obtain⟨b',off',au',cu',e',hcj,hrj⟩:=HPr.out.at hpj
     injection e' with e'
     injection e' with e1 e2
     subst e1 e2
     obtain⟨b2,o2,tx,rfl,hc2,htx,hcu3,hcu4⟩:=af1 hrj
     have Htx:Hid _:=htx
     have hpl:(t::r').length=r'.length+1:=rfl
     rw[hpl]at hcj hcu4
     clear htx hrj hpl hpj
     generalize r'.length=rl' at *
     obtain rfl:z=(j:Int):=by rw[hz.out,hlk];rfl
     have hj0:decide ((j:Int)<0)=false:=qU (by omega)
     have hless:=cm7 Hsx.out Htx.out
     by_cases hxt:x<t
     .
      have HL:Hid _:=bi8 hpk hlk hxt
      rw[qd hxt]at hless
      clear hpk hlk hz hxt
      go_wp2_with fail
      go_quiet (fail)
      go_wp2_with fail
      go_roundw
      case rel=>exact⟨k+1,k,by omega,by go_num,rfl,⟨_,by rw[HW.out,World.drewN_drewN]⟩,(show _=_ from by rw[HL.out];rfl)⟩
      case measure=>simp[intOf];omega
     .
      have HL:Hid _:=bi9 hpk hlk hxt
      rw[qU hxt]at hless
      clear hpk hlk hz hxt
      go_wp2_with fail
      go_quiet (fail)
      go_wp2_with fail
      go_roundw
      case rel=>exact⟨k+1,j,by omega,by go_num,rfl,⟨_,by rw[HW.out,World.drewN_drewN]⟩,(show _=_ from by rw[HL.out];rfl)⟩
      case measure=>simp[intOf];omega
  .
   have hkN:k=N:=by omega
   have HD:=qH (show z=lix (least ps) from by
    have h:=hz.out
    rw[hkN,HN.out]at h
    exact h)
   clear hz;go_wp2_with fail;go_ret;refine⟨?_,⟨q0,HW.out⟩⟩;rw[<- HD.out];rfl
end Go.Proofs.YtllgglolcgdehaaGreatDoor
