/- What the developers' write and end do, and more. -/
import Derived.Test.YtllgglolcgdehaaGreatDoorQAb
import Derived.Deep.RegionHeld3
import Derived.Test.YtllgglolcgdehaaGreatDoorQa03
set_option maxRecDepth 100000
set_option maxHeartbeats 16000000
namespace Go.Proofs.YtllgglolcgdehaaGreatDoor
open Go.RowKit Go.Gs Go.Maps
set_option linter.unusedVariables false
variable {G:World->(Nat->Option Own)->Prop}
theorem aR3 {M:SMach} {q:Nat} {x:SPipe} (h:M.pipes[q]? = some x):M.pipe q=x:=by unfold SMach.pipe;rw[h];rfl
theorem RMem.formX {w:World} {D r:Nat} {O:Nat->Option Own} {A:World->(Nat->Option Own)->Prop} {d:RD} (h:RMem w D r O A d) (h0:0<d.M.pipes.length):∃g c,d.vX=.slice (some ⟨g,0,none⟩) d.M.pipes.length c/\d.M.pipes.length<=c/\c<=9223372036854775807/\O g=some .pipes:=by obtain⟨g,c,s,h1,h2,h3,h4,h5,_⟩:=h.pipeAt (gEl h0);exact⟨g,c,h1,h2,h3,h5⟩
theorem RMem.atX {w:World} {D r:Nat} {O:Nat->Option Own} {A:World->(Nat->Option Own)->Prop} {d:RD} (h:RMem w D r O A d) {g c q:Nat} {x:SPipe} (hv:d.vX=.slice (some ⟨g,0,none⟩) d.M.pipes.length c) (hx:d.M.pipes[q]? = some x) :
 ∃s,d.X[q]? = some s/\ROf w O (.pipe q) s x.b/\w.cell? ⟨g,q*4,none⟩=some (sl x.b s)/\w.cell? ⟨g,q*4+1,none⟩=some (.int .i64 x.room)/\w.cell? ⟨g,q*4+2,none⟩=some (.bool x.closed)/\w.cell? ⟨g,q*4+3,none⟩=some (.bool x.shut)/\(∀j,w.frozen? ⟨g,j,none⟩=false)/\O g=some .pipes/\g<w.heap.size:=by obtain⟨g',c',s,h1,h2,h3,h4,h5,h6,h7,h8⟩:=h.pipeAt hx;rw[hv] at h1;injection h1 with e1;injection e1 with e1;injection e1 with e1;subst e1;exact⟨s,h6,h7,h8.1,h8.2.1,h8.2.2.1,h8.2.2.2.1,h8.2.2.2.2,h5,h4⟩
theorem Shape.pipes0 {M:SMach} (hS:Shape M):0<M.pipes.length:=by rw[hS.xlen];obtain⟨nl,po,hnl,_,hi⟩:=hS.g.last;have:=S9 hnl (j:=0) (by rw[hi];simp);omega
theorem l6.drew {w:World} {D r:Nat} {M:SMach} (h:l6 G w D r M):l6 G w.drew D r M:=by obtain⟨O,d,h1,h2⟩:=h;exact⟨O,d,RMem.below h1 ((Below.refl _ w).drew),h2⟩
def addO (O:Nat->Option Own) (w w':World) (o:Own) (k:Nat):Option Own:=if w.heap.size<=k/\k<w'.heap.size then some o else O k
theorem RMem.fresh {w w':World} {D r:Nat} {O:Nat->Option Own} {A:World->(Nat->Option Own)->Prop} {d:RD} (h:RMem w D r O A d) (hb:Bq w w') (o:Own):RMem w' D r (addO O w w' o) A d:=by
 refine h.grow hb (fun k hk=>by unfold addO;rw[if_neg (by omega)]) (fun g o' hg hge=>?_);unfold addO at hg;by_cases e:w.heap.size<=g/\g<w'.heap.size
 . exact e.2
 . rw[if_neg e] at hg;exact absurd (h.lo g o' hg).2 (by omega)
theorem bc8 {w w':World} {O:Nat->Option Own} {o:Own} {ar:Option Addr} {cr:Nat} {b:List UInt8} (h:PB w w' ar cr b):ROf w' (addO O w w' o) o (ar,cr) b:=by
 refine⟨h.1,h.2.2,fun h0 a ha=>?_⟩;have h1:=h.2.1 a ha;have h2:a.block<w'.heap.size:=by
  obtain⟨_,ao,cap,e,_,_,h4⟩:=h.1;obtain⟨b',off,e2,hc⟩:=h4 (fun e=>h0 (List.length_eq_zero_iff.1 e));injection e with e1;rw[show ar=some a from ha] at e1;rw[<- e1] at e2;injection e2 with e2;subst e2;have hl:0<(b.map U).length:=by rw[List.length_map];exact List.length_pos_iff.2 h0
  exact bLt w' _ (hc 0 _ (gEl hl))
 unfold addO;rw[if_pos ⟨h1,h2⟩]
theorem bP9 (D r:Nat) (O:Nat->Option Own) (d:RD) (i:Nat) (n:SNode) (p:SProc) (w:World) (h:RunM G w D r O d) (hS:Shape d.M) (hn:d.M.ns[i]? = some n) (hp:d.M.ps[i]? = some p) :
 Calls Tryz.prog 118 #[.pointer (some ⟨r,0,none⟩),.int .i64 i] w fun e w'=>e=.returned (.int .i64 (J3 d.M i p 0 p.out).2)/\l6 G w' D r (J3 d.M i p 0 p.out).1/\Below D w w':=by
 have hg:=hS.g;have hF:=hS.proc i n p hn hp;obtain⟨gP,cP,s,hvP,Dy,Fb,hgP,hOP,hs,p0,p1,p2,p3,p4,hfP,hGo,hOo,hgl,hol⟩:=h.procAt hp;obtain⟨⟨ao,co,hov,Gl,Ek⟩,hne⟩:=j8 hOo;have hx0:=Shape.pipes0 hS;obtain⟨gX,cX,hvX,Hn,Fo,hOX⟩:=h.formX hx0;have hil:i<d.M.ps.length:=(gSm hp).1;obtain⟨b0,b1,b2,b3,b4,b5,b6⟩:=O5 h.box.1;rw[hvP] at b3;rw[hov] at p2;have Xp:co<=9223372036854775807:=by unfold maxLen at Ek;exact Ek
 have HH:=qH h;have HS:=qH hS;have HN:=qH hn;have HP:=qH hp;have HSl:=qH hs;have HVX:=qH hvX;have HCX:Hid (d.M.pipes.length<=cX/\cX<=9223372036854775807):=⟨Hn,Fo⟩;have HOV:=qH hov;have HF:=qH hF;obtain⟨NL,hNL⟩:=qE p.out.length;have HNL:=qH hNL;obtain⟨NP,hNP⟩:=qE d.M.ps.length;rw[<- hNL] at p2 Gl;rw[<- hNP] at b3 hil Dy;obtain⟨RES,Af⟩:=qE (J3 d.M i p 0 p.out);rw[<- Af];have Bw:Hid (RES=J3 d.M i p 0 (p.out.drop 0)):=(show _=_ by rw[Af];rfl);clear h hS hn hp hs hvX Hn Fo hov hF hNL hNP hg hgP hOP p0 p1 p3 p4 hfP hGo hOo hgl hol hne Ek b0 b1 b2 b4 b5 b6 hx0 hvP Af hOX;go_enter Tryz.func118,Tryz.ntmps118;go_wp2_with fail;go_loopw [23] (fun z wr=>∃k:Nat,k<=NL/\z=.int .i64 k/\Hid (Bq w wr)/\Hid (RES=J3 d.M i p k (p.out.drop k))) (fun z _=>NL-(intOf z).toNat)
 case atStart=>exact⟨0,Nat.zero_le _,rfl,Below.refl _ _,Bw⟩
 case round=>
  obtain⟨k,hk,rfl,Aa,Jd⟩:=hrel;clear Bw;by_cases hlt:k<NL
  .
   obtain⟨b,hb⟩:∃b,p.out[k]? = some b:=⟨_,gEl (by have:=HNL.out;omega)⟩;have HBb:=qH hb;have hR:=RMem.below HH.out Aa.out;have HRr:=qH hR;obtain⟨gO,cO,a,eO,Xq,hcO2,hgO,hOO,ha,hSa,hcO,hfO⟩:=RMem.outAt hR HP.out HSl.out hb;have HA:=qH ha;have HSA:=qH hSa;rw[HOV.out] at eO;injection eO with eO1 eO2 eO3;subst eO1 eO3;have Xr:Hid (s.ov=.slice (some ⟨gO,0,none⟩) p.out.length co):=HOV.out;have HOO:=qH hOO;have hkn:(k:Int)<nouts n:=by have:=HF.out.olen;have:=HNL.out;omega
   obtain⟨q,hq⟩:=qE (D9 d.M.ns ((i:Int),(k:Int)));obtain⟨r',j',n',hn',hj',_,Av,hql⟩:=HS.out.g.reader HN.out hkn;have hqx:q<d.M.pipes.length:=by rw[hq,HS.out.xlen,Av];exact hql
   have HPO:Hid _:=bc6 D r O d i k q gX cX n wr hR HS.out.g HN.out hkn HS.out.xlen hq HVX.out HCX.out;obtain⟨x,hx⟩:∃x,d.M.pipes[q]? = some x:=⟨_,gEl hqx⟩;have HX:=qH hx;have HQ:=qH hq;have Rx:RES=if 0<(pwrite x b).2.1 then ((d.M.setX q (pwrite x b).1).setP i (p.setOut k (b.drop (pwrite x b).2.1)),0) else J3 d.M i p (k+1) (p.out.drop (k+1)):=by
    have hdr:p.out.drop k=b::p.out.drop (k+1):=by rw[List.drop_eq_getElem_cons (gSm hb).1];congr 1;rw[gEl (gSm hb).1] at hb;injection hb
    rw[Jd.out,hdr,J3,<- hq,aR3 hx]
   have Gw:=qH Rx;have HPG:Hid (0<(pwrite x b).2.1->(pwrite x b).2.1<=b.length):=(show 0<(pwrite x b).2.1->(pwrite x b).2.1<=b.length from fun h0=>(aL0 (HS.out.pipe x (mGt hx)) h0).2.1);have hbl:=E8 hSa.reads;clear hb hR ha hSa hOO hq hn' hj' Av hql hx Jd Rx hqx hkn;unfold sl at hcO;obtain⟨BL,hBL⟩:=qE b.length;have HBL:=qH hBL;obtain⟨aa,ca⟩:=a;simp only at hcO hbl;rw[<- hBL] at hcO hbl;clear hBL;go_wp2_with fail;refine Calls.mono HPO.out ?_;rintro e w2 ⟨rfl,hb2⟩;have hR2:=RMem.below HRr.out hb2;have HR2:=qH hR2;obtain⟨t,ht,hRt,x0,x1,x2,x3,hfX,hOX,hgX⟩:=RMem.atX hR2 HVX.out HX.out;have HT:=qH ht;have HRT:=qH hRt;have HB2:Hid (Bq w w2):=Aa.out.trans (hb2.mono Aa.out.size);have HB2':=qH hb2;have Lx:Hid (SOf w2 O (.out i k) (aa,ca) b):=SOf.keep HSA.out (fun k' hk'=>hb2.block k' (HRr.out.lo k' _ hk').2) (fun _ _=>rfl)
   have Kt:=(hb2.cell (bLt wr _ hcO)).trans hcO;have HWR:Hid _:=ce0 t.1 aa t.2 ca x b w2 hRt.1 Lx.out.reads;have HOX:=qH hOX;unfold ab9 at HWR;unfold sl at x0;rw[<- HBL.out] at HWR;clear hb2 hR2 ht hRt HPO hcO hOX;generalize x.b.length=XL at *;generalize x.room=xr at *;generalize x.closed=xc at *;generalize x.shut=xs at *;obtain⟨ta,tc⟩:=t;simp only at x0 HWR;go_wp2_with fail;refine Calls.mono HWR.out ?_;rintro e w3 ⟨ar,cr,rfl,hPB,hb3⟩;obtain⟨Z,hZ⟩:=qE (pwrite x b);rw[<- hZ] at hPB Gw HPG ⊢;obtain⟨X',cnt,err⟩:=Z;obtain⟨xb',xr',xc',xs'⟩:=X';have HPB:=qH hPB;have HB3:=qH hb3;have Xs:=(hb3.cell (bLt w2 _ Kt)).trans Kt;have g3:gO<w3.heap.size:=bLt w3 _ Xs;simp only at Gw HPG;clear hZ hPB HWR;unfold ab9;simp only;generalize hXL':xb'.length=XL';by_cases Eg:0<cnt
   .
    have hcb:=HPG.out Eg;have HR9:Hid (RES=((d.M.setX q ⟨xb',xr',xc',xs'⟩).setP i (p.setOut k (b.drop cnt)),0)):=(show _=_ by rw[Gw.out,if_pos Eg]);rw[<- HBL.out] at hcb;clear Gw HPG;have Xt:(0:Int)<(cnt:Int):=by omega
    have hR3:=RMem.fresh HR2.out HB3.out (.pipe q);have Ly:=bc8 (O:=O) (o:=.pipe q) HPB.out;have hR4:=RMem.below hR3 (boxE (w:=w3) (o:=.cells #[.slice ar XL' cr,.int .i64 xr',.bool xc',.bool xs'] 66));obtain⟨W4,hW4⟩:=qE (w3.alloc (.cells #[.slice ar XL' cr,.int .i64 xr',.bool xc',.bool xs'] 66));have Bc:W4.heap[w3.heap.size]? = some (.cells #[.slice ar XL' cr,.int .i64 xr',.bool xc',.bool xs'] 66 (0,0)):=by rw[hW4];exact heap_alloc_new _ _
    have Hq:Bq w3 W4:=by rw[hW4];exact boxE
    rw[<- hW4] at hR4;have hBD:Below D w W4:=(Aa.out.mono HH.out.le).trans ((HB2'.out.mono (by have:=HRr.out.le;exact this)).trans ((HB3.out.mono (by have:=HR2.out.le;exact this)).trans (Hq.mono (by have:=hR3.le;exact this))));have Ii:ROf W4 (addO O w2 w3 (.pipe q)) (.pipe q) (ar,cr) xb':=Ly.keep (fun k' hk'=>Hq.block k' (hR3.lo k' _ hk').2) (fun _ _ _=>rfl);obtain⟨t4,ht4,_,y0,y1,y2,y3,gfX,gOX,gX4⟩:=RMem.atX hR4 HVX.out HX.out;obtain⟨gO4,cO4,a4,eO4,_,_,gO5,oO4,ha4,Uh,z0,zf⟩:=RMem.outAt hR4 HP.out HSl.out HBb.out;rw[HA.out] at ha4;injection ha4 with ha4;subst ha4;rw[Xr.out] at eO4;injection eO4 with eO4;injection eO4 with eO4;injection eO4 with eO4;subst eO4;obtain⟨m0,m1,m2,m3⟩:=E7 Bc;rcases id Uh with ⟨Dp,hbn⟩ | ⟨g1,off1,cur1,hs1,ho1,hg1,hl1,hl2,hl3,hl4⟩
    . exfalso;rw[hbn] at HBL;have:=HBL.out;simp at this;omega
    .
     simp only at hs1 hl1 hl2 hl3;subst hs1;have HR4:Hid _:=hR4;have Xu:Hid _:=Ii;have Xv:Hid _:=Uh;have HBD:=qH hBD;have Ui:Hid _:=gOX;have Uj:Hid _:=oO4;have hl2':ca<=9223372036854775807:=by unfold maxLen at hl2;exact hl2
     rw[<- HBL.out] at hl1
     have Df:∀(s':Sl) (v:Value),v=sl (b.drop cnt) s'->SOf W4 (addO O w2 w3 (.pipe q)) (.out i k) s' (b.drop cnt) ->
      l6 G (((((W4.setCell ⟨gX,q*4,none⟩ (.slice ar XL' cr)).setCell ⟨gX,q*4+1,none⟩ (.int .i64 xr')).setCell ⟨gX,q*4+2,none⟩ (.bool xc')).setCell ⟨gX,q*4+3,none⟩ (.bool xs')).setCell ⟨gO,k,none⟩ v).drew D r RES.1 /\
      Below D w (((((W4.setCell ⟨gX,q*4,none⟩ (.slice ar XL' cr)).setCell ⟨gX,q*4+1,none⟩ (.int .i64 xr')).setCell ⟨gX,q*4+2,none⟩ (.bool xc')).setCell ⟨gX,q*4+3,none⟩ (.bool xs')).setCell ⟨gO,k,none⟩ v).drew:=by
      intro s' v hv hs'
      subst hv
      have hDX:D<=gX:=(HR4.out.lo _ _ Ui.out).1
      have hDO:D<=gO:=(HR4.out.lo _ _ Uj.out).1
      have e0:(Value.slice ar XL' cr)=sl xb' (ar,cr):=by unfold sl;rw[hXL']
      rw[e0]
      have k1:=RMem.setPipe HR4.out (x':=⟨xb',xr',xc',xs'⟩) HX.out HVX.out Ui.out Xu.out
      have hs9:=SOf.keep hs' (w':=((((W4.setCell ⟨gX,q*4,none⟩ (sl xb' (ar,cr))).setCell ⟨gX,q*4+1,none⟩ (.int .i64 xr')).setCell ⟨gX,q*4+2,none⟩ (.bool xc')).setCell ⟨gX,q*4+3,none⟩ (.bool xs'))) (O':=addO O w2 w3 (.pipe q)) (fun k' hk'=>by
       have hne:k'≠gX:=fun e=>by subst e;rw[Ui.out] at hk';cases hk'
       rw[Below.heap_setCell _ _ _ _ hne,Below.heap_setCell _ _ _ _ hne,Below.heap_setCell _ _ _ _ hne,Below.heap_setCell _ _ _ _ hne]) (fun _ _=>rfl)
      have k2:=RMem.setOut k1 HP.out HSl.out HBb.out Xr.out Uj.out hs9
      refine⟨l6.drew ⟨addO O w2 w3 (.pipe q),(d.setPipe q ⟨xb',xr',xc',xs'⟩ (ar,cr)).setProc i (p.setOut k (b.drop cnt)) (s.outSet k s'),k2,?_⟩,(((((HBD.out.setCell hDX _).setCell hDX _).setCell hDX _).setCell hDX _).setCell hDO _).drew⟩
      rw[HR9.out];rfl
     have Am:Hid _:=Df;clear Df;have HRZ:Hid (RES.2=0):=(show _=_ by rw[HR9.out]);have Xw:gX≠gO:=fun e=>by rw[e,Uj.out] at gOX;cases gOX
     have fX0:=gfX (q*4);have fX1:=gfX (q*4+1);have fX2:=gfX (q*4+2);have fX3:=gfX (q*4+3);have fO:=zf k;unfold sl at y0 z0;rw[<- HBL.out] at z0;clear hR4 Ii Uh hBD gOX oO4 hR3 Ly ht4 gfX zf hg1 hl3 hl4 hl2 Bc Hq HR9 x0 x1 x2 x3 hfX Kt Xs p2 b3;generalize x.b.length=XL0 at *;generalize x.room=xr0 at *;generalize x.closed=xc0 at *;generalize x.shut=xs0 at *;by_cases hce:ca=cnt
     . subst hce;have HSO:Hid (SOf W4 (addO O w2 w3 (.pipe q)) (.out i k) (some ⟨g1,off1,none⟩,0) (b.drop ca)):=SOf.drop Xv.out rfl (by rw[<- HBL.out];omega) _ (.inr ⟨rfl,rfl⟩);have hBe:BL=ca:=by omega
       subst hBe;go_upto_region 8 with fail;rw[<- hW4];clear hW4;go_region
       all_goals go_wp2_with fail
       all_goals go_ret
       all_goals refine⟨by rw[HRZ.out];rfl,?_⟩
       all_goals exact Am.out (some ⟨g1,off1,none⟩,0) _ (by unfold sl;rw[List.length_drop,<- HBL.out,Nat.sub_self]) HSO.out
     . have HSO:Hid (SOf W4 (addO O w2 w3 (.pipe q)) (.out i k) (some ⟨g1,off1+cnt,none⟩,ca-cnt) (b.drop cnt)):=SOf.drop Xv.out rfl (by rw[<- HBL.out];omega) _ (.inl rfl);go_upto_region 8 with fail;rw[<- hW4];clear hW4;go_region
       all_goals go_wp2_with fail
       all_goals go_ret
       all_goals refine⟨by rw[HRZ.out];rfl,?_⟩
       all_goals exact Am.out (some ⟨g1,off1+cnt,none⟩,ca-cnt) _ (by unfold sl;rw[List.length_drop,<- HBL.out]) HSO.out
   . have HR9:Hid (RES=J3 d.M i p (k+1) (p.out.drop (k+1))):=(show _=_ by rw[Gw.out,if_neg Eg]);have Xt:¬(0:Int)<(cnt:Int):=by omega
     clear Gw HPG Eg;go_wp2_with fail;go_roundw
     case rel=>exact⟨k+1,by omega,by go_num,(HB2.out.trans (HB3.out.mono HB2.out.size)).alloc (by have:=HB2.out.size;have:=HB3.out.size;omega) _,HR9⟩
     case measure=>simp[intOf];omega
  .
   have HR:Hid (RES=(d.M,8)):=(show _=_ by
    rw[Jd.out,List.drop_of_length_le (by have:=HNL.out;omega)]
    rfl)
   clear Jd;go_wp2_with fail;go_ret;rw[HR.out];exact⟨rfl,⟨O,d,RMem.below HH.out Aa.out,rfl⟩,Aa.out.mono HH.out.le⟩
end Go.Proofs.YtllgglolcgdehaaGreatDoor
namespace Go.Proofs.YtllgglolcgdehaaGreatDoor
open Go.RowKit Go.Gs
set_option linter.unusedVariables false
structure CL (w:World) (B:Nat) (O:Nat->Option Own) (ro:Own) (bo:Nat->Own) (v:Value) (ss:List Sl) (l:List (List UInt8)):Prop where
 own:w.ownsRow B 28 1 v l.length (U9 l ss)
 ob:X7 O v ro
 len:ss.length=l.length
 bys:∀(j:Nat) (b:List UInt8) (s:Sl),l[j]? = some b->ss[j]? = some s->SOf w O (bo j) s b
def bC6:Value->Sl
 | .slice a _ c=>(a,c)
 | _=>nilS
theorem ce1 {w:World} {v:Value} {l:List (List UInt8)} (h:RList w v U l):∃ss:List Sl,ss.length=l.length/\Reads w v l.length (U9 l ss) /\ ∀(j:Nat) (b:List UInt8) (s:Sl),l[j]? = some b->ss[j]? = some s->Reads w (sl b s) b.length (b.map U):=by
 obtain⟨cells,hr,hc⟩:=h;have hcl:cells.length=l.length:=hr.1;have hat:∀(j:Nat) (b:List UInt8),l[j]? = some b -> ∃s:Sl,cells[j]? = some (sl b s)/\bC6 (sl b s)=s/\Reads w (sl b s) b.length (b.map U):=by
  intro j b hb;obtain⟨u,hu,hru⟩:=hc j b hb;obtain⟨_,ao,cap,e,_⟩:=id hru;refine⟨(ao,cap),?_,rfl,?_⟩
  . rw[hu,e];rfl
  . rw[e] at hru;exact hru
 have e1:U9 l (cells.map bC6)=cells:=by
  apply List.ext_getElem?;intro j;unfold U9
  cases hb:l[j]? with
  | none=>
   rw[List.getElem?_zipWith,hb]
   have:cells[j]? = none:=by rw[List.getElem?_eq_none_iff] at hb ⊢;omega
   rw[this]
  | some b=>
   obtain⟨s,hs,hs2,_⟩:=hat j b hb
   rw[List.getElem?_zipWith,hb,List.getElem?_map,hs]
   simp[hs2]
 refine⟨cells.map bC6,by rw[List.length_map,hcl],by rw[e1];exact hr,fun j b s hb hs=>?_⟩;obtain⟨s',hs',hs2,hrd⟩:=hat j b hb;rw[List.getElem?_map,hs'] at hs;simp[hs2] at hs;subst hs;exact hrd
theorem bQ0 (l:List (List UInt8)) (ss:List Sl):∀u∈U9 l ss,u.oneCell'=true:=by intro u hu;obtain⟨j,hj⟩:=List.getElem?_of_mem hu;unfold U9 at hj;obtain⟨b,s,_,_,e⟩:=List.getElem?_zipWith_eq_some.1 hj;rw[<- e];rfl
theorem cv3 (b:List UInt8):∀u∈b.map U,u.oneCell'=true:=by intro u hu;obtain⟨x,_,e⟩:=List.mem_map.1 hu;rw[<- e];rfl
theorem aj0 {w:World} {ao:Option Addr} {n c:Nat} {xs:List Value} (h:Reads w (.slice ao n c) n xs):(ao=none->n=0) /\ ∀a,ao=some a -> ∀j u,xs[j]? = some u->w.cell? (a.add j)=some u:=by
 obtain⟨h1,ao',cap,e,h2,h3,h4⟩:=h;injection e with e1 e2 e3;subst e1 e3;refine⟨fun h0=>?_,fun a ha j u hu=>?_⟩
 .
  by_cases hn:n=0
  . exact hn
  . obtain⟨b,off,e,_⟩:=h4 hn;rw[h0] at e
    cases e
 . have hn:n≠0:=by have:=(gSm hu).1;omega
   obtain⟨b,off,e,hc⟩:=h4 hn;rw[ha] at e;injection e with e;subst e;rw[addP];exact hc j u hu
theorem bi4 (ab:Option Addr) (cb:Nat) (bs:List UInt8) (w:World) (hr:Reads w (.slice ab bs.length cb) bs.length (bs.map U)) (hl:bs.length<=100000) :
 Calls Tryz.prog 125 #[.slice ab bs.length cb] w fun e w'=>∃v',e=.returned v'/\w'.ownsRow w.heap.size 5 1 v' bs.length (bs.map U)/\Bq w w':=
 bh8 ab bs.length cb (bs.map U) w (by simp) hl (aj0 hr).1 (aj0 hr).2 (cv3 bs)
structure CLTo (w wr:World) (v:Value) (ro:Own) (bo:Nat->Own) (l:List (List UInt8)) (k:Nat) (ss:List Sl) (O:Nat->Option Own):Prop where
 own:wr.ownsRow w.heap.size 28 1 v l.length (U9 l ss)
 ob:X7 O v ro
 len:ss.length=l.length
 lo:∀g o,O g=some o->w.heap.size<=g/\g<wr.heap.size
 vals:∀g o,O g=some o->o=ro \/ ∃j,o=bo j
 bys:∀(j:Nat) (b:List UInt8) (s:Sl),j<k->l[j]? = some b->ss[j]? = some s->SOf wr O (bo j) s b
 rest:∀(j:Nat) (b:List UInt8) (s:Sl),k<=j->l[j]? = some b->ss[j]? = some s->Reads w (sl b s) b.length (b.map U)
theorem as8 {α:Type} {l:List α} {k:Nat} {b:α} (h:l[k]? = some b):l.set k b=l:=by
 apply List.ext_getElem?;intro j;by_cases e:k=j
 . subst e;rw[x8 h,h]
 . rw[E0 e]
theorem CLTo.step {w wr w2:World} {g N c:Nat} {ro:Own} {bo:Nat->Own} {l:List (List UInt8)} {k:Nat} {ss:List Sl} {O:Nat->Option Own} (hN:N=l.length) (h:CLTo w wr (.slice (some ⟨g,0,none⟩) N c) ro bo l k ss O) (hne:∀j,bo j≠ro) {b:List UInt8} (hb:l[k]? = some b) (hle:Bq wr w2) (hws:w.heap.size<=wr.heap.size)
 {v2:Value} (ho:w2.ownsRow wr.heap.size 5 1 v2 b.length (b.map U)) :
 ∃s2,CLTo w (w2.setCell ⟨g,k,none⟩ v2) (.slice (some ⟨g,0,none⟩) N c) ro bo l (k+1) (ss.set k s2) (addO O wr w2 (bo k)):=by
 subst hN;have hgo:O g=some ro:=h.ob g rfl;have hgl:=(h.lo g ro hgo);have hb2:∀g',v2.ownBlock=some g'->addO O wr w2 (bo k) g'=some (bo k):=fun g' hg'=>by have:=ho.lt g' hg';unfold addO;rw[if_pos ⟨this.1,this.2⟩]
 obtain⟨s2,e2,hso,_⟩:=SOf.of_owns ho hb2;subst e2;have hkl:k<l.length:=(gSm hb).1;have hold:∀k',k'<wr.heap.size->addO O wr w2 (bo k) k'=O k':=fun k' hk'=>by unfold addO;rw[if_neg (by omega)]
 have hg2:addO O wr w2 (bo k) g=some ro:=(hold g hgl.2).trans hgo
 have Aj:w2.ownsRow w.heap.size 28 1 (.slice (some ⟨g,0,none⟩) l.length c) l.length (U9 l ss):=o5 h.own (fun g' hg'=>by
  have e1:g=g':=by injection hg'
  subst e1
  exact hle.block g hgl.2)
 refine⟨s2,?_,fun g' hg'=>?_,by simpa using h.len,fun g' o hg'=>?_,fun g' o hg'=>?_,fun j b' s hj hb' hs=>?_,fun j b' s hj hb' hs=>?_⟩
 . have:=M6 Aj k (by omega) (sl b s2);rw[aG9,as8 hb] at this;exact this
 . have e1:g=g':=by injection hg'
   subst e1;exact hg2
 .
  show w.heap.size<=g'/\g'<(w2.setCell _ _).heap.size;have hsz:(w2.setCell ⟨g,k,none⟩ (sl b s2)).heap.size=w2.heap.size:=by simp
  rw[hsz];have:=hle.size;unfold addO at hg';split at hg'
  . omega
  . have:=h.lo g' o hg';omega
 .
  unfold addO at hg';split at hg'
  . injection hg' with hg';exact .inr ⟨k,hg'.symm⟩
  . exact h.vals g' o hg'
 .
  have hk':∀k',addO O wr w2 (bo k) k'=some (bo j)->(w2.setCell ⟨g,k,none⟩ (sl b s2)).heap[k']? = w2.heap[k']?:=fun k' hk'=>Below.heap_setCell _ _ _ _ (fun e=>by
   subst e
   rw[hg2] at hk'
   injection hk' with hk'
   exact hne j hk'.symm)
  by_cases e:j=k
  . subst e;rw[hb] at hb';injection hb' with hb';subst hb';have hsl:ss.length=l.length:=h.len;have e3:(ss.set j s2)[j]? = some s2:=by rw[List.getElem?_set,if_pos rfl,if_pos (by omega)]
    rw[e3] at hs;injection hs with hs;subst hs;exact hso.keep hk' (fun _ _=>rfl)
  . rw[E0 (fun e2=>e e2.symm)] at hs;have h1:=h.bys j b' s (by omega) hb' hs;have h2:=h1.keep (w':=w2) (O':=addO O wr w2 (bo k)) (fun k' hk''=>hle.block k' (h.lo k' _ hk'').2) hold;exact h2.keep hk' (fun _ _=>rfl)
 . rw[E0 (fun e2=>by omega)] at hs;exact h.rest j b' s (by omega) hb' hs
theorem bC7 (ro:Own) (bo:Nat->Own) (hne:∀j,bo j≠ro) (ao:Option Addr) (c:Nat) (l:List (List UInt8)) (w:World) (h:RList w (.slice ao l.length c) U l) (hn:l.length<=100000) (hb:∀b∈l,b.length<=100000) :
 Calls Tryz.prog 128 #[.slice ao l.length c] w fun e w'=>∃v' ss O,e=.returned v'/\CL w' w.heap.size O ro bo v' ss l/\((∀g o,O g=some o->w.heap.size<=g/\g<w'.heap.size) /\ ∀g o,O g=some o->o=ro \/ ∃j,o=bo j)/\Bq w w':=by
 obtain⟨ss0,hl0,hr0,hb0⟩:=ce1 h;have hC:=bh7 ao l.length c (U9 l ss0) w (by have:=hr0.1;omega) hn (aj0 hr0).1 (aj0 hr0).2 (bQ0 l ss0);have HC:Hid _:=hC;have HB0:=qH hb0;have HB:=qH hb;have HL0:=qH hl0;obtain⟨N,hN⟩:=qE l.length;have HN:=qH hN;rw[<- hN] at HC hn ⊢;clear h hb hl0 hr0 hb0 hC hN;go_enter Tryz.func128,Tryz.ntmps128;go_wp2_with fail;refine Calls.mono HC.out ?_;rintro e w1 ⟨v',rfl,Ab,hb1⟩;have HB1:=qH hb1;have HOW:=qH Ab;obtain⟨⟨ao1,c1,rfl,hc1,hc2⟩,Bv⟩:=j8 Ab;have hc2':c1<=9223372036854775807:=by unfold maxLen at hc2;exact hc2
 have hST:∃O,CLTo w w1 (.slice ao1 N c1) ro bo l 0 ss0 O:=by
  refine⟨fun k=>if some k=(Value.slice ao1 N c1).ownBlock then some ro else none,by rw[<- HN.out];exact HOW.out,fun g hg=>by simp[hg],HL0.out,fun g o hg=>?_,fun g o hg=>?_,fun j b s hj=>absurd hj (by omega),fun j b s _ hb hs=>HB0.out j b s hb hs⟩
  . by_cases e:some g=(Value.slice ao1 N c1).ownBlock
    . exact Ab.lt g e.symm
    . rw[if_neg e] at hg;cases hg
  . by_cases e:some g=(Value.slice ao1 N c1).ownBlock
    . rw[if_pos e] at hg;injection hg with hg;exact .inl hg.symm
    . rw[if_neg e] at hg;cases hg
 obtain⟨O0,hST⟩:=hST;have HST:Hid _:=hST;by_cases h0:N=0
 .
  have Am:Hid (CL w1 w.heap.size O0 ro bo (.slice ao1 N c1) ss0 l/\((∀g o,O0 g=some o->w.heap.size<=g/\g<w1.heap.size) /\ ∀g o,O0 g=some o->o=ro \/ ∃j,o=bo j)):=⟨⟨hST.own,hST.ob,hST.len,fun j b s hb _=>by
   have:=(gSm hb).1
   have:=HN.out
   omega⟩,hST.lo,hST.vals⟩
  subst h0;clear hST Ab Bv hb1 HC;go_wp2_with fail;go_loopw [10] (fun i wr=>i=.int .i64 0/\wr=w1) (fun i _=>0)
  case atStart=>exact⟨rfl,rfl⟩
  case round=>obtain⟨rfl,rfl⟩:=hrel;go_wp2_with fail;go_ret;exact⟨_,ss0,O0,rfl,Am.out.1,Am.out.2,HB1.out⟩
 .
  obtain⟨g,cg,e1,_,_,_,_,_⟩:=Bv h0;injection e1 with e1 e2 e3;subst e1;clear hST Ab Bv hb1 HC e3;go_wp2_with fail;go_loopw [10] (fun i wr=>∃k:Nat,k<=N/\i=.int .i64 k/\Hid (Bq w wr)/\Hid (∃ss O,CLTo w wr (.slice (some ⟨g,0,none⟩) N c1) ro bo l k ss O)) (fun i _=>N-(intOf i).toNat)
  case atStart=>exact⟨0,Nat.zero_le _,rfl,HB1,(show ∃ss O,CLTo w w1 (.slice (some ⟨g,0,none⟩) N c1) ro bo l 0 ss O from ⟨ss0,O0,HST.out⟩)⟩
  case round=>
   obtain⟨k,hk,rfl,Aa,Ci⟩:=hrel;clear HST;obtain⟨ss,O,hI⟩:=Ci.out;have HI:Hid _:=hI;clear Ci;by_cases hlt:k<N
   .
    obtain⟨b,hb⟩:∃b,l[k]? = some b:=⟨_,gEl (by have:=HN.out;omega)⟩;obtain⟨s,hs⟩:∃s,ss[k]? = some s:=⟨_,gEl (by have:=hI.len;have:=HN.out;omega)⟩;have HBb:=qH hb;have Ac:wr.cell? ⟨g,k,none⟩=some (sl b s):=by have h1:=hI.own;rw[<- HN.out] at h1;rw[h1.cellAt k (by omega)];exact aC6 hb hs
    have hfz:wr.frozen? ⟨g,k,none⟩=false:=by have h1:=hI.own;rw[<- HN.out] at h1;exact h1.frozenAt k
    have hrd:=hI.rest k b s (Nat.le_refl _) hb hs;unfold sl at Ac hrd;have HCB:Hid _:=bi4 s.1 s.2 b wr (hrd.below Aa.out) (HB.out b (mGt hb));obtain⟨sa,sc⟩:=s;obtain⟨BL,hBL⟩:=qE b.length;have HBL:=qH hBL;simp only at Ac HCB;rw[<- hBL] at Ac HCB;clear hI hrd hb hs hBL;go_wp2_with fail;refine Calls.mono HCB.out ?_;rintro e w2 ⟨v2,rfl,ho2,hb2⟩;obtain⟨⟨ao2,c2,hv2,_,_⟩,_⟩:=j8 ho2;subst hv2;have Mc:=(hb2.cell (bLt wr _ Ac)).trans Ac;have hfz2:w2.frozen? ⟨g,k,none⟩=false:=by have hgl:g<wr.heap.size:=bLt wr _ Ac;have:=hb2.block g hgl;simp only[World.frozen?] at hfz ⊢;rw[this];exact hfz
    have Au:=CLTo.step HN.out HI.out hne HBb.out hb2 Aa.out.size (by rw[HBL.out] at ho2;exact ho2);have hwg:w.heap.size<=g:=(HI.out.lo g _ (HI.out.ob g rfl)).1
    have Jw:Hid (∃ss O,CLTo w (w2.setCell ⟨g,k,none⟩ (.slice ao2 BL c2)) (.slice (some ⟨g,0,none⟩) N c1) ro bo l (k+1) ss O):=(show ∃ss O,_ from by
     obtain⟨s2,h2⟩:=Au
     rw[<- HBL.out] at h2
     exact⟨_,_,h2⟩)
    have HB2:Hid (Bq w (w2.setCell ⟨g,k,none⟩ (.slice ao2 BL c2))):=(Aa.out.trans (hb2.mono Aa.out.size)).setCell hwg _;clear Au ho2 hb2 Ac hfz HCB;go_wp2_with fail;go_roundw
    case rel=>exact⟨k+1,by omega,by go_num,HB2,Jw⟩
    case measure=>simp[intOf];omega
   .
    have Am:Hid (CL wr w.heap.size O ro bo (.slice (some ⟨g,0,none⟩) N c1) ss l/\((∀g o,O g=some o->w.heap.size<=g/\g<wr.heap.size) /\ ∀g o,O g=some o->o=ro \/ ∃j,o=bo j)):=⟨⟨hI.own,hI.ob,hI.len,fun j b s hb hs=>hI.bys j b s (by
     have:=(gSm hb).1
     have:=HN.out
     omega) hb hs⟩,hI.lo,hI.vals⟩
    clear hI;go_wp2_with fail;go_ret;exact⟨_,ss,O,rfl,Am.out.1,Am.out.2,Aa.out⟩
end Go.Proofs.YtllgglolcgdehaaGreatDoor
namespace Go.Gs
open Go.RowKit
set_option linter.unusedVariables false
abbrev NRow:=SNode × (Option Addr × Nat)
def encN (x:NRow):List Value:=[.int .i64 x.1.kind,.string ⟨x.1.file.toArray⟩,.int .i64 x.1.c.kind,.string ⟨x.1.c.word.toArray⟩,.int .i64 x.1.c.n,.int .i64 x.1.how,.int .i64 x.1.wide,.slice x.2.1 x.1.ins.length x.2.2]
def C7 (out:List NRow):List Value:=(out.map encN).flatten
theorem ah6 (out:List NRow) (r:NRow):C7 (r::out)=encN r++C7 out:=by simp[C7]
theorem am0 (out:List NRow):(C7 out).length=out.length*8:=by
 induction out with
 | nil=>rfl
 | cons r l ih=>
  rw[ah6,List.length_append,ih]
  simp[encN]
  omega
theorem af1:∀(out:List NRow) (j:Nat) (r:NRow),out[j]? = some r -> ∀i,i<8->(C7 out)[j*8+i]? = (encN r)[i]?
 | [],j,r,h,i,hi=>by simp at h
 | d::l,0,r,h,i,hi=>by
  simp at h;subst h
  rw[ah6,List.getElem?_append_left (by simp[encN];omega)]
  simp
 | d::l,j+1,r,h,i,hi=>by
  have ih:=af1 l j r (by simpa using h) i hi
  rw[ah6,List.getElem?_append_right (by simp[encN];omega),show (j+1)*8+i-(encN d).length=j*8+i by simp[encN];omega]
  exact ih
theorem bq7 (r:NRow):∀u∈encN r,u.oneCell'=true:=by intro u hu;simp[encN] at hu;rcases hu with rfl | rfl | rfl | rfl | rfl | rfl | rfl | rfl <;> rfl
def FS (D:Nat) (go:Option Nat) (X:Nat->Prop) (k:Nat):Prop:=k=D\/go=some k\/X k
structure Kept (D:Nat) (go:Option Nat) (X:Nat->Prop) (w w':World):Prop where
 os:w'.os=w.os
 tape:w'.tape=w.tape
 output:w'.output=w.output
 size:w.heap.size<=w'.heap.size
 block:∀k,k<w.heap.size -> ¬FS D go X k->w'.heap[k]? = w.heap[k]?
theorem Kept.of_below {D:Nat} {go:Option Nat} {X:Nat->Prop} {w w':World} (h:Bq w w'):Kept D go X w w':=⟨h.os,h.tape,h.output,h.size,fun k hk _=>h.block k hk⟩
theorem Kept.refl (D:Nat) (go:Option Nat) (X:Nat->Prop) (w:World):Kept D go X w w:=⟨rfl,rfl,rfl,Nat.le_refl _,fun _ _ _=>rfl⟩
def Nxt (w:World) (go go':Option Nat):Prop:=go'=go \/ ∃g,go'=some g/\w.heap.size<=g
theorem Nxt.refl (w:World) (go:Option Nat):Nxt w go go:=Or.inl rfl
theorem Nxt.old {w:World} {go go':Option Nat} (h:Nxt w go go') {k:Nat} (hk:k<w.heap.size) (e:go'=some k):go=some k:=by
 rcases h with rfl | ⟨g,e2,hg⟩
 . exact e
 . rw[e2] at e;injection e with e;omega
def NxtX (w:World) (X X':Nat->Prop):Prop:=∀k,k<w.heap.size->X' k->X k
theorem NxtX.refl (w:World) (X:Nat->Prop):NxtX w X X:=fun _ _ h=>h
theorem FS.old {w:World} {D:Nat} {go go':Option Nat} {X X':Nat->Prop} (hg:Nxt w go go') (hd:NxtX w X X') {k:Nat} (hk:k<w.heap.size) (h:FS D go' X' k):FS D go X k:=by
 rcases h with e | e | e
 . exact .inl e
 . exact .inr (.inl (hg.old hk e))
 . exact .inr (.inr (hd _ hk e))
theorem Kept.set {D:Nat} {go:Option Nat} {X:Nat->Prop} {w w':World} (h:Kept D go X w w') {a:Addr} {v:Value} (ha:a.block=D):Kept D go X w (w'.setCell a v):=
 ⟨h.os,h.tape,h.output,by simpa using h.size,fun k hk hn=>(Below.heap_setCell _ _ _ _ (by rw[ha];exact fun e=>hn (.inl e))).trans (h.block k hk hn)⟩
def POff (w:World) (D:Nat) (go:Option Nat) (X:Nat->Prop) (ao:Option Addr) (cap:Nat) (ps:List (Int × Int)):Prop:=E2 w (.slice ao ps.length cap) ps/\(ps.length≠0 -> ∀a,ao=some a -> ¬FS D go X a.block)
theorem aL3 {w w':World} {ao:Option Addr} {cap:Nat} {ps:List (Int × Int)} (h:E2 w (.slice ao ps.length cap) ps) (hk:ps.length≠0 -> ∀a,ao=some a->a.block<w.heap.size->w'.heap[a.block]? = w.heap[a.block]?):E2 w' (.slice ao ps.length cap) ps:=by obtain⟨ao',cap',e,h2,h3,h4⟩:=h;injection e with e1 e2 e3;subst e1 e3;refine⟨ao,cap,rfl,h2,h3,fun hn=>?_⟩;obtain⟨b,off,rfl,hc⟩:=h4 hn;refine⟨b,off,rfl,fun j p hp=>?_⟩;obtain⟨c1,c2⟩:=hc j p hp;have hlt:b<w.heap.size:=bLt w _ c1;have e:=hk hn _ rfl hlt;simp only[World.cell?] at c1 c2 ⊢;rw[e];exact⟨c1,c2⟩
theorem aD8 {w:World} {a:Addr} {n cap:Nat} {ps:List (Int × Int)} (h:E2 w (.slice (some a) n cap) ps) (hn:ps.length≠0):a.block<w.heap.size:=by obtain⟨ao',cap',e,h2,h3,h4⟩:=h;injection e with e1 e2 e3;subst e1;obtain⟨b,off,e4,hc⟩:=h4 hn;injection e4 with e4;subst e4;exact bLt w _ (hc 0 _ (gEl (by omega))).1
theorem POff.keep {w w':World} {D:Nat} {go go':Option Nat} {X X':Nat->Prop} {ao:Option Addr} {cap:Nat} {ps:List (Int × Int)} (h:POff w D go X ao cap ps) (hk:Kept D go X w w') (hg:Nxt w go go') (hd:NxtX w X X'):POff w' D go' X' ao cap ps:=by refine⟨aL3 h.1 (fun hn a ha hl=>hk.block _ hl (h.2 hn a ha)),fun hn a ha hf=>h.2 hn a ha ?_⟩;subst ha;exact hf.old hg hd (aD8 h.1 hn)
structure NO (w:World) (B D:Nat) (X:Nat->Prop) (e:TypeId) (v:Value) (rows:List NRow):Prop where
 own:w.ownsRow B e 8 v rows.length (C7 rows)
 good:∀r∈rows,POff w D v.ownBlock X r.2.1 r.2.2 r.1.ins
 off:v.ownBlock≠some D
theorem NO.base {w:World} {B D:Nat} {X:Nat->Prop} {e:TypeId} {v:Value} {rows:List NRow} (h:NO w B D X e v rows):∀g,v.ownBlock=some g->B<=g/\g<w.heap.size:=by
 intro g hg;rcases h.own.2 with ⟨rfl,h0⟩ | ⟨g',cap,cur,rfl,hb,h1,_⟩
 . simp[Value.ownBlock] at hg
 .
  simp[Value.ownBlock] at hg;subst hg;refine⟨hb,?_⟩;rcases Nat.lt_or_ge g' w.heap.size with h2 | h2
  . exact h2
  . rw[Array.getElem?_eq_none h2] at h1;cases h1
theorem NO.keep {w w':World} {B D:Nat} {X X':Nat->Prop} {e:TypeId} {v:Value} {rows:List NRow} (h:NO w B D X e v rows) (hk:Kept D v.ownBlock X w w') (hv:∀g,v.ownBlock=some g->w'.heap[g]? = w.heap[g]?) (hd:NxtX w X X'):NO w' B D X' e v rows:=by
 refine⟨?_,fun r hr=>(h.good r hr).keep hk (Nxt.refl _ _) hd,h.off⟩;refine⟨h.own.1,?_⟩;rcases h.own.2 with ⟨e1,h0⟩ | ⟨g,cap,cur,e1,hb,h1,h2⟩
 . exact Or.inl ⟨e1,h0⟩
 . refine Or.inr ⟨g,cap,cur,e1,hb,?_,h2⟩;rw[hv g (by rw[e1];rfl)];exact h1
theorem NO.below {w w':World} {B D:Nat} {X:Nat->Prop} {e:TypeId} {v:Value} {rows:List NRow} (h:NO w B D X e v rows) (hb:Bq w w'):NO w' B D X e v rows:=
 h.keep (Kept.of_below hb) (fun g hg=>hb.block g (h.base g hg).2) (NxtX.refl _ _)
theorem NO.set {w:World} {B D:Nat} {X:Nat->Prop} {e:TypeId} {v:Value} {rows:List NRow} (h:NO w B D X e v rows) {a:Addr} {u:Value} (ha:a.block=D):NO (w.setCell a u) B D X e v rows:=
 h.keep ((Kept.refl _ _ _ _).set ha) (fun g hg=>Below.heap_setCell _ _ _ _ (by rw[ha];intro e2;exact h.off (by rw[hg,e2]))) (NxtX.refl _ _)
theorem NO.nodes {w:World} {B D:Nat} {X:Nat->Prop} {e:TypeId} {v:Value} {rows:List NRow} (h:NO w B D X e v rows):A2 w v (rows.map (·.1)):=by
 have hl:(rows.map (·.1)).length=rows.length:=List.length_map _;rcases h.own.2 with ⟨rfl,h0⟩ | ⟨g,cap,cur,rfl,hb,hg,h1,h2,h3,h4⟩
 . exact⟨none,0,by rw[hl,h0],by omega,by simp[maxLen],fun hn=>absurd (hl.trans h0) hn⟩
 .
  refine⟨_,cap,by rw[hl],by omega,h2,fun _=>⟨g,0,rfl,fun j f hj=>?_⟩⟩;rw[List.getElem?_map] at hj
  cases hr:rows[j]? with
  | none=>rw[hr] at hj;cases hj
  | some r=>
   rw[hr] at hj
   simp only[Option.map_some,Option.some.injEq] at hj
   subst hj
   have hjl:j<rows.length:=(gSm hr).1
   have c:∀i,i<8->w.cell? ⟨g,j*8+i,none⟩=(encN r)[i]?:=fun i hi=>by
    have:=h.own.cellAt (j*8+i) (by omega)
    rw[af1 rows j r hr i hi] at this
    exact this
   refine⟨r.2.1,r.2.2,?_,(h.good r (mGt hr)).1⟩
   rw[Nat.zero_add]
   exact⟨c 0 (by omega),c 1 (by omega),c 2 (by omega),c 3 (by omega),c 4 (by omega),c 5 (by omega),c 6 (by omega),c 7 (by omega)⟩
end Go.Gs
namespace Go.Proofs.YtllgglolcgdehaaGreatDoor
open Go.RowKit Go.Gs
set_option linter.unusedVariables false
theorem ab5 {α β:Type}:∀{xs:List α} {P:Nat->α->β->Prop},(∀(j:Nat) (x:α),xs[j]? = some x -> ∃y,P j x y) -> ∃ys:List β,ys.length=xs.length /\ ∀(j:Nat) (x:α) (y:β),xs[j]? = some x->ys[j]? = some y->P j x y
 | [],P,h=>⟨[],rfl,fun j x y hx=>by simp at hx⟩
 | a::r,P,h=>by
  obtain⟨y0,hy0⟩:=h 0 a rfl
  obtain⟨ys,h1,h2⟩:=ab5 (xs:=r) (P:=fun j x y=>P (j+1) x y) (fun j x hx=>h (j+1) x (by simpa using hx))
  refine⟨y0::ys,by simp[h1],fun j x y hx hy=>?_⟩
  cases j with
  | zero=>
   simp at hx hy
   subst hx hy
   exact hy0
  | succ j=>exact h2 j x y (by simpa using hx) (by simpa using hy)
structure Off (g:Nat) (w w':World):Prop where
 os:w'.os=w.os
 tape:w'.tape=w.tape
 output:w'.output=w.output
 size:w.heap.size<=w'.heap.size
 block:∀k,k<w.heap.size->k≠g->w'.heap[k]? = w.heap[k]?
theorem Off.refl (g:Nat) (w:World):Off g w w:=⟨rfl,rfl,rfl,Nat.le_refl _,fun _ _ _=>rfl⟩
theorem Off.of_below {g:Nat} {w w':World} (h:Bq w w'):Off g w w':=⟨h.os,h.tape,h.output,h.size,fun k hk _=>h.block k hk⟩
theorem Off.trans {g:Nat} {w w1 w2:World} (h:Off g w w1) (k:Off g w1 w2):Off g w w2:=⟨k.os.trans h.os,k.tape.trans h.tape,k.output.trans h.output,by have:=h.size;have:=k.size;omega,fun j hj hn=>(k.block j (by have:=h.size;omega) hn).trans (h.block j hj hn)⟩
theorem Off.set {g:Nat} {w w':World} (h:Off g w w') {a:Addr} {v:Value} (ha:a.block=g):Off g w (w'.setCell a v):=
 ⟨h.os,h.tape,h.output,by simpa using h.size,fun k hk hn=>(Below.heap_setCell _ _ _ _ (by rw[ha];exact hn)).trans (h.block k hk hn)⟩
theorem Off.setNew {g:Nat} {w w':World} (h:Off g w w') {a:Addr} {v:Value} (ha:w.heap.size<=a.block):Off g w (w'.setCell a v):=
 ⟨h.os,h.tape,h.output,by simpa using h.size,fun k hk hn=>(Below.heap_setCell _ _ _ _ (by omega)).trans (h.block k hk hn)⟩
def cutH (w:World) (D:Nat):World:={ w with heap:=w.heap.extract 0 D }
theorem am1 {w:World} {D:Nat} (h:D<=w.heap.size):(cutH w D).heap.size=D:=by unfold cutH;simp;omega
theorem aA5 {w:World} {D k:Nat} (h:D<=w.heap.size) (hk:k<D):(cutH w D).heap[k]? = w.heap[k]?:=by unfold cutH;simp only[Array.getElem?_extract];rw[if_pos (by omega),Nat.zero_add]
theorem aR4 {w:World} {D:Nat} (h:D<=w.heap.size):Below D (cutH w D) w:=⟨rfl,rfl,rfl,by rw[am1 h];exact h,fun k hk=>(aA5 h hk).symm⟩
structure OffB (g:Nat) (w w':World):Prop where
 os:w'.os=w.os
 tape:w'.tape=w.tape
 output:w'.output=w.output
 size:w.heap.size<=w'.heap.size
 block:∀k,k<w.heap.size->k≠g->k≠g+1->w'.heap[k]? = w.heap[k]?
theorem OffB.of {g:Nat} {w w':World} (h:Off g w w'):OffB g w w':=⟨h.os,h.tape,h.output,h.size,fun k hk h1 _=>h.block k hk h1⟩
theorem OffB.set {g:Nat} {w w':World} (h:OffB g w w') {a:Addr} {v:Value} (ha:a.block=g+1):OffB g w (w'.setCell a v):=
 ⟨h.os,h.tape,h.output,by simpa using h.size,fun k hk hn hn2=>(Below.heap_setCell _ _ _ _ (by rw[ha];exact hn2)).trans (h.block k hk hn hn2)⟩
theorem bQ1 {w w':World} {g:Nat} (h:OffB g w w'):OffB g w (cutH w' w.heap.size):=⟨h.os,h.tape,h.output,by rw[am1 h.size];exact Nat.le_refl _,fun k hk hn hn2=>(aA5 h.size hk).trans (h.block k hk hn hn2)⟩
def brX (D k:Nat):Prop:=k=D+1
theorem NO.off {w w':World} {B D:Nat} {e:TypeId} {v:Value} {rows:List NRow} (h:NO w B D (brX D) e v rows) (hB:D+2<=B) (ho:OffB D w w'):NO w' B D (brX D) e v rows:=
 h.keep ⟨ho.os,ho.tape,ho.output,ho.size,fun k hk hn=>ho.block k hk (fun e=>hn (.inl e)) (fun e=>hn (.inr (.inr e)))⟩ (fun g hg=>by
  have:=h.base g hg
  exact ho.block g this.2 (by omega) (by omega)) (NxtX.refl _ _)
theorem aX8:∀(rows:List NRow) (k:Nat) (r r':NRow),rows[k]? = some r->r'.1=r.1->C7 (rows.set k r')=(C7 rows).set (k*8+7) (.slice r'.2.1 r'.1.ins.length r'.2.2):=by intro rows k r r' hk e;have h1:=U8 (k:=8) (rows.map encN) k (encN r) (fun x hx=>by obtain⟨y,_,rfl⟩:=List.mem_map.1 hx;rfl) (by rw[List.getElem?_map,hk];rfl) 7 (.slice r'.2.1 r'.1.ins.length r'.2.2) (by omega);unfold C7;rw[h1,List.map_set];congr 2;unfold encN;rw[e];rfl
theorem NO.setIn {w:World} {B D:Nat} {Z:Nat->Prop} {e:TypeId} {g n cap:Nat} {rows:List NRow} (h:NO w B D Z e (.slice (some ⟨g,0,none⟩) n cap) rows) {k:Nat} {r r':NRow} (hk:rows[k]? = some r) (hn:r'.1=r.1) (hr:POff w D (some g) Z r'.2.1 r'.2.2 r'.1.ins) :
 NO (w.setCell ⟨g,k*8+7,none⟩ (.slice r'.2.1 r'.1.ins.length r'.2.2)) B D Z e (.slice (some ⟨g,0,none⟩) n cap) (rows.set k r'):=by
 have hkl:k<rows.length:=(gSm hk).1;have hnn:n=rows.length:=by
  rcases h.own.2 with ⟨h2,_⟩ | ⟨_,_,_,h2,_⟩
  . cases h2
  . injection h2
 subst hnn;have hK:Kept D (some g) Z w (w.setCell ⟨g,k*8+7,none⟩ (.slice r'.2.1 r'.1.ins.length r'.2.2)):=⟨rfl,rfl,rfl,by simp,fun q _ hq=>Below.heap_setCell _ _ _ _ (fun e=>hq (.inr (.inl (by rw[e]))))⟩;refine⟨?_,fun x hx=>?_,h.off⟩
 . rw[List.length_set,aX8 rows k r r' hk hn];exact M6 h.own _ (by omega) _
 . rcases List.mem_or_eq_of_mem_set hx with hx | rfl
   . exact (h.good x hx).keep hK (Nxt.refl _ _) (NxtX.refl _ _)
   . exact hr.keep hK (Nxt.refl _ _) (NxtX.refl _ _)
theorem aY0 (rows:List NRow):∀u∈C7 rows,u.oneCell'=true:=by intro u hu;unfold C7 at hu;rw[List.mem_flatten] at hu;obtain⟨l,hl,hu⟩:=hu;obtain⟨r,_,rfl⟩:=List.mem_map.1 hl;exact bq7 r u hu
theorem ce2 {w:World} {ao:Option Addr} {n cap:Nat} {ns:List SNode} (h:A2 w (.slice ao n cap) ns):∃rows:List NRow,rows.map (·.1)=ns/\(∀a,ao=some a -> ∀j u,(C7 rows)[j]? = some u->w.cell? (a.add j)=some u)/\(∀r∈rows,E2 w (.slice r.2.1 r.1.ins.length r.2.2) r.1.ins)/\(ao=none->n=0):=by
 obtain⟨ao',cap',e,h2,h3,h4⟩:=h;injection e with e1 e2 e3;subst e1 e2;by_cases h0:ns.length=0
 . have:ns=[]:=List.length_eq_zero_iff.1 h0;subst this;exact⟨[],rfl,fun a _ j u hu=>by simp[C7] at hu,fun r hr=>(by cases hr),fun _=>rfl⟩
 .
  obtain⟨b,off,hao,hc⟩:=h4 h0
  obtain⟨ys,hl,hy⟩:=ab5 (P:=fun j x (y:Option Addr × Nat)=>aA1 w b (off+j*8) x y.1 y.2/\E2 w (.slice y.1 x.ins.length y.2) x.ins) (fun j x hx=>by
   obtain⟨ai,ci,a1,a2⟩:=hc j x hx
   exact⟨(ai,ci),a1,a2⟩)
  have hzl:(ns.zip ys).length=ns.length:=by rw[List.length_zip];omega
  have hz:∀(j:Nat) (r:NRow),(ns.zip ys)[j]? = some r->aA1 w b (off+j*8) r.1 r.2.1 r.2.2/\E2 w (.slice r.2.1 r.1.ins.length r.2.2) r.1.ins:=by intro j r hr;rw[List.getElem?_zip_eq_some] at hr;exact hy j r.1 r.2 hr.1 hr.2
  refine⟨ns.zip ys,by rw[List.map_fst_zip (by omega)],fun a ha j u hu=>?_,fun r hr=>?_,fun h=>by rw[hao] at h;cases h⟩
  .
   rw[hao] at ha;injection ha with ha;subst ha;rw[addP];have hjl:j<(C7 (ns.zip ys)).length:=(gSm hu).1;rw[am0,hzl] at hjl;obtain⟨r,hr⟩:∃r,(ns.zip ys)[j / 8]? = some r:=⟨_,gEl (by rw[hzl];omega)⟩;have hj8:j=j / 8*8+j % 8:=by omega
   have hm:j % 8<8:=by omega
   rw[hj8,af1 _ _ r hr _ hm] at hu;obtain⟨c0,c1,c2,c3,c4,c5,c6,c7⟩:=(hz _ r hr).1;have Aq:off+j=off+j / 8*8+j % 8:=by omega
   rw[Aq];generalize j % 8=m at *;generalize j / 8=q at *;have:m=0\/m=1\/m=2\/m=3\/m=4\/m=5\/m=6\/m=7:=by omega
   rcases this with rfl | rfl | rfl | rfl | rfl | rfl | rfl | rfl
   all_goals
    simp[encN] at hu
    subst hu
    assumption
  . obtain⟨j,hj⟩:=List.getElem?_of_mem hr;exact (hz j r hj).2
structure FO2 (w:World) (B D:Nat) (v:Value) (rows:List FRow):Prop where
 fo:FO w B 83 v rows
 lo:D+2<=B
 good:∀r∈rows,r.1.b.length≠0 -> ∀a,r.2.1=some a->a.block≠D/\a.block≠D+1
theorem aR5 {w:World} {a:Addr} {n cap:Nat} {bs:List UInt8} (h:Reads w (.slice (some a) n cap) bs.length (bs.map U)) (h0:bs.length≠0):a.block<w.heap.size:=by
 obtain⟨h1,ao,cap,e,h2,h3,h4⟩:=h;obtain⟨b,off,e2,hc⟩:=h4 h0;injection e with e1 _ _;rw[<- e1] at e2;injection e2 with e2;subst e2;have hl:0<(bs.map U).length:=by rw[List.length_map];omega
 exact bLt w _ (hc 0 _ (gEl hl))
theorem FO2.off' {w w':World} {B D:Nat} {v:Value} {rows:List FRow} (h:FO2 w B D v rows) (ho:OffB D w w'):FO2 w' B D v rows:=by
 refine⟨⟨?_,fun r hr=>?_⟩,h.lo,h.good⟩
 . exact o5 h.fo.own (fun g hg=>by
    have h1:=h.fo.own.lt g hg
    have h2:=h.lo
    exact ho.block g h1.2 (by omega) (by omega))
 .
  obtain⟨g1,g2,g3⟩:=h.fo.good r hr;refine⟨g1,?_,g3⟩;by_cases h0:r.1.b.length=0
  . obtain⟨h1,ao,cap,e,h2,h3,h4⟩:=g2;exact⟨h1,ao,cap,e,h2,h3,fun hn=>absurd h0 hn⟩
  . refine ad8 g2 (fun a ha=>ho.block _ ?_ (h.good r hr h0 a ha).1 (h.good r hr h0 a ha).2);rw[ha] at g2;exact aR5 g2 h0
theorem ce3 {w:World} {ao:Option Addr} {n cap:Nat} {fs:List SFile} (h:j9 w (.slice ao n cap) fs):∃rows:List FRow,rows.map (·.1)=fs/\(∀a,ao=some a -> ∀j u,(j4 rows)[j]? = some u->w.cell? (a.add j)=some u)/\(∀r∈rows,r.2.2.1=r.1.b.length/\Reads w (.slice r.2.1 r.2.2.1 r.2.2.2) r.1.b.length (r.1.b.map U))/\(ao=none->n=0):=by
 obtain⟨ao',cap',e,h2,h3,h4⟩:=h;injection e with e1 e2 e3;subst e1 e2;by_cases h0:fs.length=0
 . have:fs=[]:=List.length_eq_zero_iff.1 h0;subst this;exact⟨[],rfl,fun a _ j u hu=>by simp[j4] at hu,fun r hr=>(by cases hr),fun _=>rfl⟩
 .
  obtain⟨b,off,hao,hc⟩:=h4 h0
  obtain⟨ys,hl,hy⟩:=ab5 (P:=fun j (x:SFile) (y:Option Addr × Nat × Nat)=>w.cell? ⟨b,off+j*2,none⟩=some (.string ⟨x.name.toArray⟩)/\w.cell? ⟨b,off+j*2+1,none⟩=some (.slice y.1 y.2.1 y.2.2)/\y.2.1=x.b.length/\Reads w (.slice y.1 y.2.1 y.2.2) x.b.length (x.b.map U)) (fun j x hx=>by
   obtain⟨u,a1,a2,a3⟩:=hc j x hx
   obtain⟨q1,aa,cc,e,q2⟩:=id a3
   subst e
   exact⟨(aa,x.b.length,cc),a1,a2,rfl,a3⟩)
  have hzl:(fs.zip ys).length=fs.length:=by rw[List.length_zip];omega
  have hz:∀(j:Nat) (r:FRow),(fs.zip ys)[j]? = some r->w.cell? ⟨b,off+j*2,none⟩=some (.string ⟨r.1.name.toArray⟩)/\w.cell? ⟨b,off+j*2+1,none⟩=some (.slice r.2.1 r.2.2.1 r.2.2.2)/\r.2.2.1=r.1.b.length/\Reads w (.slice r.2.1 r.2.2.1 r.2.2.2) r.1.b.length (r.1.b.map U):=by intro j r hr;rw[List.getElem?_zip_eq_some] at hr;exact hy j r.1 r.2 hr.1 hr.2
  refine⟨fs.zip ys,by rw[List.map_fst_zip (by omega)],fun a ha j u hu=>?_,fun r hr=>?_,fun h=>by rw[hao] at h;cases h⟩
  . rw[hao] at ha;injection ha with ha;subst ha;rw[addP];exact aQ0 (b:=b) (off:=off) (rows:=fs.zip ys) (fun j r hr=>⟨(hz j r hr).1,(hz j r hr).2.1⟩) j u hu
  . obtain⟨j,hj⟩:=List.getElem?_of_mem hr;exact (hz j r hj).2.2
def OLo (O:Nat->Option Own) (D:Nat) (w:World):Prop:=∀g o,O g=some o->D<=g/\g<w.heap.size
theorem OLo.add {O:Nat->Option Own} {D:Nat} {w w':World} (h:OLo O D w) (hb:Bq w w') (hD:D<=w.heap.size) (o:Own):OLo (addO O w w' o) D w':=by
 intro g o' hg;have:=hb.size;unfold addO at hg;split at hg
 . omega
 . have:=h g o' hg;omega
theorem OLo.set {O:Nat->Option Own} {D:Nat} {w:World} (h:OLo O D w) (a:Addr) (v:Value):OLo O D (w.setCell a v):=fun g o hg=>by
 have:=h g o hg
 rw[show (w.setCell a v).heap.size=w.heap.size by simp]
 exact this
theorem aR6 {O:Nat->Option Own} {w w':World} {o:Own} {k:Nat} (h:k<w.heap.size):addO O w w' o k=O k:=by unfold addO;rw[if_neg (by omega)]
theorem ROf.of_sof {w:World} {O:Nat->Option Own} {o:Own} {s:Sl} {b:List UInt8} (h:SOf w O o s b):ROf w O o s b:=by
 refine⟨h.reads,fun h0=>?_,fun _ a ha=>?_⟩
 . rcases h with ⟨rfl,_⟩ | ⟨g,off,cur,hs,_⟩
   . rfl
   . rw[h0] at hs;cases hs
 .
  rcases h with ⟨rfl,_⟩ | ⟨g,off,cur,hs,ho,_⟩
  . cases ha
  . rw[hs] at ha;injection ha with ha;subst ha;exact ho
structure PT (w wr:World) (D:Nat) (v:Value) (xs:List SPipe) (k:Nat) (X:List Sl) (O:Nat->Option Own):Prop where
 own:wr.ownsRow D 66 4 v xs.length (A4 xs X).flatten
 ob:X7 O v .pipes
 len:X.length=xs.length
 bys:∀(q:Nat) (x:SPipe) (s:Sl),q<k->xs[q]? = some x->X[q]? = some s->ROf wr O (.pipe q) s x.b
 rest:∀(q:Nat) (x:SPipe) (s:Sl),k<=q->xs[q]? = some x->X[q]? = some s->Reads w (sl x.b s) x.b.length (x.b.map U)
theorem PT.keep {w wr w':World} {D:Nat} {v:Value} {xs:List SPipe} {k:Nat} {X:List Sl} {O O':Nat->Option Own} (h:PT w wr D v xs k X O) (hk:∀g o,O g=some o->(o=.pipes \/ ∃q,o=.pipe q)->w'.heap[g]? = wr.heap[g]?) (hO:∀g o,O g=some o->O' g=O g):PT w w' D v xs k X O':=
 ⟨o5 h.own (fun g hg=>hk g _ (h.ob g hg) (.inl rfl)),fun g hg=>(hO g _ (h.ob g hg)).trans (h.ob g hg),h.len,fun q x s hq hx hs=>(h.bys q x s hq hx hs).keep (fun g hg=>hk g _ hg (.inr ⟨q,rfl⟩)) hO,h.rest⟩
theorem PT.step {w wr w2:World} {D g c N:Nat} {xs:List SPipe} {k:Nat} {X:List Sl} {O:Nat->Option Own} (hN:N=xs.length) (h:PT w wr D (.slice (some ⟨g,0,none⟩) N c) xs k X O) (hlo:OLo O D wr) (hD:D<=wr.heap.size) {x:SPipe} (hx:xs[k]? = some x) (hle:Bq wr w2)
 {v2:Value} (ho:w2.ownsRow wr.heap.size 5 1 v2 x.b.length (x.b.map U)) :
 ∃s2,PT w (w2.setCell ⟨g,k*4,none⟩ v2) D (.slice (some ⟨g,0,none⟩) N c) xs (k+1) (X.set k s2) (addO O wr w2 (.pipe k))/\OLo (addO O wr w2 (.pipe k)) D (w2.setCell ⟨g,k*4,none⟩ v2):=by
 subst hN;have hgo:O g=some .pipes:=h.ob g rfl;have hgl:=hlo g _ hgo;have hb2:∀g',v2.ownBlock=some g'->addO O wr w2 (.pipe k) g'=some (.pipe k):=fun g' hg'=>by have:=ho.lt g' hg';unfold addO;rw[if_pos ⟨this.1,this.2⟩]
 obtain⟨s2,e2,hso,_⟩:=SOf.of_owns ho hb2;subst e2;have hkl:k<xs.length:=(gSm hx).1;have hg2:addO O wr w2 (.pipe k) g=some .pipes:=(aR6 hgl.2).trans hgo;have h1:PT w w2 D (.slice (some ⟨g,0,none⟩) xs.length c) xs k X (addO O wr w2 (.pipe k)):=h.keep (fun g' o hg' _=>hle.block g' (hlo g' o hg').2) (fun g' o hg'=>aR6 (hlo g' o hg').2);obtain⟨s,hs⟩:∃s,X[k]? = some s:=⟨_,gEl (by rw[h.len];exact hkl)⟩
 have hk':∀q k',addO O wr w2 (.pipe k) k'=some (.pipe q)->(w2.setCell ⟨g,k*4,none⟩ (sl x.b s2)).heap[k']? = w2.heap[k']?:=fun q k' hk'=>Below.heap_setCell _ _ _ _ (fun e=>by
  subst e
  rw[hg2] at hk'
  cases hk')
 refine⟨s2,⟨?_,fun g' hg'=>?_,by simpa using h.len,fun q x' s' hq hx' hs'=>?_,fun q x' s' hq hx' hs'=>?_⟩,(hlo.add hle hD _).set _ _⟩
 . have Aj:(A4 xs X)[k]? = some (P8 x s):=ac4 hx hs;have h2:=M6 h1.own (k*4) (by omega) (sl x.b s2);have f0:=U8 _ k _ (M7 xs X) Aj 0 (sl x.b s2) (by omega);rw[Nat.add_zero] at f0;have e1:(P8 x s).set 0 (sl x.b s2)=P8 x s2:=rfl;rw[f0,e1] at h2;unfold A4 at h2;rw[ai8,as8 hx] at h2;exact h2
 . have e1:g=g':=by injection hg'
   subst e1;exact hg2
 .
  by_cases e:q=k
  . subst e;rw[hx] at hx';injection hx' with hx';subst hx';rw[x8 hs] at hs';injection hs' with hs';subst hs';exact ROf.of_sof (hso.keep (hk' q) (fun _ _=>rfl))
  . rw[E0 (fun e2=>e e2.symm)] at hs';exact (h1.bys q x' s' (by omega) hx' hs').keep (hk' q) (fun _ _ _=>rfl)
 . rw[E0 (fun e2=>by omega)] at hs';exact h.rest q x' s' (by omega) hx' hs'
theorem bq8 {w:World} {ao:Option Addr} {n cap:Nat} {xs:List SPipe} (h:U7 w (.slice ao n cap) xs):∃X:List Sl,X.length=xs.length/\(∀a,ao=some a -> ∀j u,(A4 xs X).flatten[j]? = some u->w.cell? (a.add j)=some u)/\(∀(q:Nat) (x:SPipe) (s:Sl),xs[q]? = some x->X[q]? = some s->Reads w (sl x.b s) x.b.length (x.b.map U))/\(ao=none->n=0):=by
 obtain⟨ao',cap',e,h2,h3,h4⟩:=h;injection e with e1 e2 e3;subst e1 e2;by_cases h0:xs.length=0
 . have:xs=[]:=List.length_eq_zero_iff.1 h0;subst this;exact⟨[],rfl,fun a _ j u hu=>by simp[A4] at hu,fun q x s hx=>by simp at hx,fun _=>rfl⟩
 .
  obtain⟨b,off,hao,hc⟩:=h4 h0
  obtain⟨X,hl,hy⟩:=ab5 (P:=fun j (x:SPipe) (s:Sl)=>w.cell? ⟨b,off+j*4,none⟩=some (sl x.b s)/\w.cell? ⟨b,off+j*4+1,none⟩=some (.int .i64 x.room)/\w.cell? ⟨b,off+j*4+2,none⟩=some (.bool x.closed)/\w.cell? ⟨b,off+j*4+3,none⟩=some (.bool x.shut)/\Reads w (sl x.b s) x.b.length (x.b.map U)) (fun j x hx=>by
   obtain⟨ab,cb,a0,a1,a2,a3,a4⟩:=hc j x hx
   exact⟨(ab,cb),a0,a1,a2,a3,a4⟩)
  refine⟨X,hl,fun a ha j u hu=>?_,fun q x s hx hs=>(hy q x s hx hs).2.2.2.2,fun h=>by rw[hao] at h;cases h⟩;rw[hao] at ha;injection ha with ha;subst ha;rw[addP];have hjl:j<(A4 xs X).flatten.length:=(gSm hu).1;rw[al2 _ (M7 xs X)] at hjl;have hrl:(A4 xs X).length=xs.length:=by unfold A4;rw[List.length_zipWith];omega
  rw[hrl] at hjl;obtain⟨x,hx⟩:∃x,xs[j / 4]? = some x:=⟨_,gEl (by omega)⟩;obtain⟨s,hs⟩:∃s,X[j / 4]? = some s:=⟨_,gEl (by omega)⟩;have hj4:j=j / 4*4+j % 4:=by omega
  have hm:j % 4<4:=by omega
  have Aj:(A4 xs X)[j / 4]? = some (P8 x s):=ac4 hx hs;rw[hj4,ad1 _ _ _ (M7 xs X) Aj _ hm] at hu;obtain⟨c0,c1,c2,c3,_⟩:=hy _ x s hx hs;have Aq:off+j=off+j / 4*4+j % 4:=by omega
  rw[Aq];generalize j % 4=m at *;generalize j / 4=q at *;have:m=0\/m=1\/m=2\/m=3:=by omega
  rcases this with rfl | rfl | rfl | rfl
  all_goals
   simp[P8] at hu
   subst hu
   assumption
theorem bi5 (xs:List SPipe) (X:List Sl):∀u∈(A4 xs X).flatten,u.oneCell'=true:=by intro u hu;rw[List.mem_flatten] at hu;obtain⟨l,hl,hu⟩:=hu;obtain⟨j,hj⟩:=List.getElem?_of_mem hl;unfold A4 at hj;obtain⟨x,s,_,_,rfl⟩:=List.getElem?_zipWith_eq_some.1 hj;unfold P8 at hu;simp at hu;rcases hu with rfl | rfl | rfl | rfl <;> rfl
theorem SOf.lift {w:World} {O O':Nat->Option Own} {o:Own} {s:Sl} {b:List UInt8} (h:SOf w O o s b) (hO:∀k o,O k=some o->O' k=some o):SOf w O' o s b:=by
 rcases h with h | ⟨g,off,cur,hs,ho,h1⟩
 . exact .inl h
 . exact .inr ⟨g,off,cur,hs,hO g o ho,h1⟩
theorem SOf.move {w w':World} {O:Nat->Option Own} {o:Own} {s:Sl} {b:List UInt8} (h:SOf w O o s b) (hk:∀k,O k=some o->w'.heap[k]? = w.heap[k]?):SOf w' O o s b:=h.keep hk (fun _ _=>rfl)
theorem CL.keep {w w':World} {B:Nat} {O O':Nat->Option Own} {ro:Own} {bo:Nat->Own} {v:Value} {ss:List Sl} {l:List (List UInt8)} (h:CL w B O ro bo v ss l) (hk:∀g o,O g=some o->(o=ro \/ ∃j,o=bo j)->w'.heap[g]? = w.heap[g]?) (hO:∀g o,O g=some o->O' g=some o):CL w' B O' ro bo v ss l:=
 ⟨o5 h.own (fun g hg=>hk g _ (h.ob g hg) (.inl rfl)),fun g hg=>hO g _ (h.ob g hg),h.len,fun j b s hb hs=>((h.bys j b s hb hs).move (fun g hg=>hk g _ hg (.inr ⟨j,rfl⟩))).lift hO⟩
theorem CL.lower {w:World} {B B':Nat} {O:Nat->Option Own} {ro:Own} {bo:Nat->Own} {v:Value} {ss:List Sl} {l:List (List UInt8)} (h:CL w B O ro bo v ss l) (hB:B'<=B):CL w B' O ro bo v ss l:=by
 refine⟨⟨h.own.1,?_⟩,h.ob,h.len,h.bys⟩;rcases h.own.2 with h0 | ⟨g,cap,cur,e,hb,h1⟩
 . exact .inl h0
 . exact .inr ⟨g,cap,cur,e,by omega,h1⟩
structure QT (w wr:World) (D:Nat) (v:Value) (ps:List SProc) (k:Nat) (P:List PSlot) (O:Nat->Option Own):Prop where
 own:wr.ownsRow D 76 5 v ps.length (v6 ps P).flatten
 ob:X7 O v .procs
 len:P.length=ps.length
 bys:∀(i:Nat) (p:SProc) (s:PSlot),i<k->ps[i]? = some p->P[i]? = some s->CL wr D O (.gots i) (Own.got i) s.gv s.gs p.got/\CL wr D O (.outs i) (Own.out i) s.ov s.os p.out
 rest:∀(i:Nat) (p:SProc) (s:PSlot),k<=i->ps[i]? = some p->P[i]? = some s->RList w s.gv U p.got/\RList w s.ov U p.out
theorem QT.keep {w wr w':World} {D:Nat} {v:Value} {ps:List SProc} {k:Nat} {P:List PSlot} {O O':Nat->Option Own} (h:QT w wr D v ps k P O) (hk:∀g o,O g=some o->w'.heap[g]? = wr.heap[g]?) (hO:∀g o,O g=some o->O' g=some o):QT w w' D v ps k P O':=
 ⟨o5 h.own (fun g hg=>hk g _ (h.ob g hg)),fun g hg=>hO g _ (h.ob g hg),h.len,fun i p s hi hp hs=>⟨(h.bys i p s hi hp hs).1.keep (fun g o hg _=>hk g o hg) hO,(h.bys i p s hi hp hs).2.keep (fun g o hg _=>hk g o hg) hO⟩,h.rest⟩
theorem QT.step {w wr:World} {D g c N:Nat} {ps:List SProc} {k:Nat} {P:List PSlot} {O:Nat->Option Own} (hN:N=ps.length) (h:QT w wr D (.slice (some ⟨g,0,none⟩) N c) ps k P O) {p:SProc} (hp:ps[k]? = some p) {gv ov:Value} {gs os:List Sl}
 (h1:CL wr D O (.gots k) (Own.got k) gv gs p.got) (h2:CL wr D O (.outs k) (Own.out k) ov os p.out) :
 QT w ((wr.setCell ⟨g,k*5,none⟩ gv).setCell ⟨g,k*5+2,none⟩ ov) D (.slice (some ⟨g,0,none⟩) N c) ps (k+1) (P.set k ⟨gv,ov,gs,os⟩) O:=by
 subst hN;have hgo:O g=some .procs:=h.ob g rfl;have hkl:k<ps.length:=(gSm hp).1;obtain⟨s,hs⟩:∃s,P[k]? = some s:=⟨_,gEl (by rw[h.len];exact hkl)⟩;have hk':∀o k',o≠Own.procs->O k'=some o->((wr.setCell ⟨g,k*5,none⟩ gv).setCell ⟨g,k*5+2,none⟩ ov).heap[k']? = wr.heap[k']?:=fun o k' ho hk'=>by
  have hne:k'≠g:=fun e=>by subst e;rw[hgo] at hk';injection hk' with hk';exact ho hk'.symm
  rw[Below.heap_setCell _ _ _ _ hne,Below.heap_setCell _ _ _ _ hne]
 have kc:∀{ro:Own} {bo:Nat->Own} {v:Value} {ss:List Sl} {l:List (List UInt8)},ro≠Own.procs->(∀j,bo j≠Own.procs)->CL wr D O ro bo v ss l->CL ((wr.setCell ⟨g,k*5,none⟩ gv).setCell ⟨g,k*5+2,none⟩ ov) D O ro bo v ss l:=fun hr hb hc=>hc.keep (fun g' o hg' hx=>hk' o g' (by rcases hx with rfl | ⟨j,rfl⟩;exact hr;exact hb j) hg') (fun _ _ h=>h);refine⟨?_,h.ob,by simpa using h.len,fun i p' s' hi hp' hs'=>?_,fun i p' s' hi hp' hs'=>?_⟩
 .
  have Aj:(v6 ps P)[k]? = some (I6 p s):=ac4 hp hs;have k0:=M6 h.own (k*5) (by omega) gv;have k1:=M6 k0 (k*5+2) (by omega) ov;have f0:=U8 _ k _ (M8 ps P) Aj 0 gv (by omega);rw[Nat.add_zero] at f0;rw[f0] at k1;have hl1:∀r∈(v6 ps P).set k ((I6 p s).set 0 gv),r.length=5:=fun r hr=>by
   rcases List.mem_or_eq_of_mem_set hr with h | h
   . exact M8 ps P r h
   . rw[h];rfl
  rw[U8 _ k _ hl1 (x8 Aj) 2 ov (by omega),List.set_set] at k1;have e1:((I6 p s).set 0 gv).set 2 ov=I6 p ⟨gv,ov,gs,os⟩:=rfl;rw[e1] at k1;unfold v6 at k1;rw[ai8,as8 hp] at k1;exact k1
 .
  by_cases e:i=k
  . subst e;rw[hp] at hp';injection hp' with hp';subst hp';rw[x8 hs] at hs';injection hs' with hs';subst hs';exact⟨kc (by simp) (by simp) h1,kc (by simp) (by simp) h2⟩
  . rw[E0 (fun e2=>e e2.symm)] at hs';obtain⟨q1,q2⟩:=h.bys i p' s' (by omega) hp' hs';exact⟨kc (by simp) (by simp) q1,kc (by simp) (by simp) q2⟩
 . rw[E0 (fun e2=>by omega)] at hs';exact h.rest i p' s' (by omega) hp' hs'
theorem bq9 {w:World} {ao:Option Addr} {n cap:Nat} {ps:List SProc} (h:Q8 w (.slice ao n cap) ps):∃P:List PSlot,P.length=ps.length/\(∀a,ao=some a -> ∀j u,(v6 ps P).flatten[j]? = some u->w.cell? (a.add j)=some u)/\(∀(i:Nat) (p:SProc) (s:PSlot),ps[i]? = some p->P[i]? = some s->RList w s.gv U p.got/\RList w s.ov U p.out)/\(ao=none->n=0) /\ ∀u∈(v6 ps P).flatten,u.oneCell'=true:=by
 obtain⟨ao',cap',e,h2,h3,h4⟩:=h;injection e with e1 e2 e3;subst e1 e2;by_cases h0:ps.length=0
 . have:ps=[]:=List.length_eq_zero_iff.1 h0;subst this;exact⟨[],rfl,fun a _ j u hu=>by simp[v6] at hu,fun q x s hx=>by simp at hx,fun _=>rfl,fun u hu=>by simp[v6] at hu⟩
 .
  obtain⟨b,off,hao,hc⟩:=h4 h0
  obtain⟨P,hl,hy⟩:=ab5 (P:=fun j (p:SProc) (s:PSlot)=>(∃ag cg ab cb,s.gv=.slice ag p.got.length cg/\s.ov=.slice ab p.out.length cb)/\w.cell? ⟨b,off+j*5,none⟩=some s.gv/\w.cell? ⟨b,off+j*5+1,none⟩=some (.int .i64 p.pos)/\w.cell? ⟨b,off+j*5+2,none⟩=some s.ov/\w.cell? ⟨b,off+j*5+3,none⟩=some (.bool p.rd)/\w.cell? ⟨b,off+j*5+4,none⟩=some (.bool p.ov)/\RList w s.gv U p.got/\RList w s.ov U p.out) (fun j x hx=>by
   obtain⟨ag,cg,ab,cb,a0,a1,a2,a3,a4,a5,a6⟩:=hc j x hx
   exact⟨⟨.slice ag x.got.length cg,.slice ab x.out.length cb,[],[]⟩,⟨ag,cg,ab,cb,rfl,rfl⟩,a0,a1,a2,a3,a4,a5,a6⟩)
  refine⟨P,hl,fun a ha j u hu=>?_,fun q x s hx hs=>(hy q x s hx hs).2.2.2.2.2.2,fun h=>(by rw[hao] at h;cases h),fun u hu=>?_⟩
  .
   rw[hao] at ha;injection ha with ha;subst ha;rw[addP];have hjl:j<(v6 ps P).flatten.length:=(gSm hu).1;rw[al2 _ (M8 ps P)] at hjl;have hrl:(v6 ps P).length=ps.length:=by unfold v6;rw[List.length_zipWith];omega
   rw[hrl] at hjl;obtain⟨x,hx⟩:∃x,ps[j / 5]? = some x:=⟨_,gEl (by omega)⟩;obtain⟨s,hs⟩:∃s,P[j / 5]? = some s:=⟨_,gEl (by omega)⟩;have hj4:j=j / 5*5+j % 5:=by omega
   have hm:j % 5<5:=by omega
   have Aj:(v6 ps P)[j / 5]? = some (I6 x s):=ac4 hx hs;rw[hj4,ad1 _ _ _ (M8 ps P) Aj _ hm] at hu;obtain⟨_,c0,c1,c2,c3,c4,_⟩:=hy _ x s hx hs;have Aq:off+j=off+j / 5*5+j % 5:=by omega
   rw[Aq];generalize j % 5=m at *;generalize j / 5=q at *;have:m=0\/m=1\/m=2\/m=3\/m=4:=by omega
   rcases this with rfl | rfl | rfl | rfl | rfl
   all_goals
    simp[I6] at hu
    subst hu
    assumption
  .
   rw[List.mem_flatten] at hu;obtain⟨l,hl2,hu⟩:=hu;obtain⟨j,hj⟩:=List.getElem?_of_mem hl2;unfold v6 at hj;obtain⟨x,s,hx,hs,rfl⟩:=List.getElem?_zipWith_eq_some.1 hj;obtain⟨⟨ag,cg,ab,cb,e1,e2⟩,_⟩:=hy j x s hx hs;unfold I6 at hu;simp at hu;rcases hu with rfl | rfl | rfl | rfl | rfl
   . rw[e1];rfl
   . rfl
   . rw[e2];rfl
   . rfl
   . rfl
def aj1 (O OL:Nat->Option Own) (w:World) (k:Nat):Option Own:=if k<w.heap.size then O k else OL k
theorem am2 {O OL:Nat->Option Own} {D:Nat} {w:World} (h:OLo O D w):∀k o,O k=some o->aj1 O OL w k=some o:=fun k o hk=>by
 unfold aj1
 rw[if_pos (h k o hk).2]
 exact hk
theorem bc9 {O OL:Nat->Option Own} {w w':World} (h:OLo OL w.heap.size w'):∀k o,OL k=some o->aj1 O OL w k=some o:=fun k o hk=>by
 unfold aj1
 rw[if_neg (by have:=h k o hk;omega)]
 exact hk
theorem OLo.join {O OL:Nat->Option Own} {D:Nat} {w w':World} (h:OLo O D w) (h2:OLo OL w.heap.size w') (hD:D<=w.heap.size) (hs:w.heap.size<=w'.heap.size):OLo (aj1 O OL w) D w':=by
 intro g o hg;unfold aj1 at hg;split at hg
 . have:=h g o hg;omega
 . have:=h2 g o hg;omega
structure Raw (w:World) (D:Nat) (O:Nat->Option Own) (d:RD):Prop where
 lo:OLo O D w
 none:∀g,O g≠some .box/\O g≠some .aux
 base:∃w0:World,w0.heap.size=D/\Below D w0 w/\A2 w0 d.vN d.M.ns/\j9 w0 d.vF d.M.fs
 xlen:d.X.length=d.M.pipes.length
 plen:d.P.length=d.M.ps.length
 slen:∀(i:Nat) (p:SProc) (s:PSlot),d.M.ps[i]? = some p->d.P[i]? = some s->s.gs.length=p.got.length/\s.os.length=p.out.length
 part:∀o,o≠Own.box->o≠Own.aux->Part w D 0 O (fun _ _=>True) d o
theorem cv4 {w w2 wF:World} {D:Nat} {M:SMach} {vN vF vX vP:Value} {X:List Sl} {P:List PSlot} {sS:Sl} {O:Nat->Option Own} {bm B B':Nat} {rN:List NRow} {rF:List FRow}
 (hlo:OLo O D wF) (hno:∀g,O g≠some .box/\O g≠some .aux) (hD:w2.heap.size=D) (Aq:OffB bm w2 wF) (hBb:bm+2<=B) (hN:NO w2 B bm (brX bm) 73 vN rN) (hNe:rN.map (·.1)=M.ns) (hF:FO2 w2 B' bm vF rF) (hFe:rF.map (·.1)=M.fs)
 (hX:PT w wF D vX M.pipes M.pipes.length X O) (hP:QT w wF D vP M.ps M.ps.length P O) (hS:SOf wF O .sunk sS M.sunk) (vI vM:Value):Raw wF D O ⟨M,vN,vF,vX,vP,vI,vM,sS,X,P⟩:=by
 have hDs:D<=wF.heap.size:=by have:=Aq.size;omega
 have h0:=bQ1 Aq;rw[hD] at h0;refine⟨hlo,hno,⟨cutH wF D,am1 hDs,aR4 hDs,?_,?_⟩,hX.len,hP.len,fun i p s hp hs=>?_,fun o h1 h2=>?_⟩
 . have:=(NO.off hN hBb h0).nodes;rw[hNe] at this;exact this
 . have:=(hF.off' h0).fo.files;rw[hFe] at this;exact this
 . have:=hP.bys i p s (gSm hp).1 hp hs;exact⟨this.1.len,this.2.len⟩
 .
  cases o using Own.elimE with
  | box=>exact absurd rfl h1
  | aux=>exact absurd rfl h2
  | pipes=>exact⟨hX.own,hX.ob⟩
  | procs=>exact⟨hP.own,hP.ob⟩
  | gots i=>exact fun p s hp hs=>⟨(hP.bys i p s (gSm hp).1 hp hs).1.own,(hP.bys i p s (gSm hp).1 hp hs).1.ob⟩
  | outs i=>exact fun p s hp hs=>⟨(hP.bys i p s (gSm hp).1 hp hs).2.own,(hP.bys i p s (gSm hp).1 hp hs).2.ob⟩
  | pipe q=>exact fun x s hx hs=>hX.bys q x s (gSm hx).1 hx hs
  | got i j=>exact fun p s b a hp hs hb ha=>(hP.bys i p s (gSm hp).1 hp hs).1.bys j b a hb ha
  | out i j=>exact fun p s b a hp hs hb ha=>(hP.bys i p s (gSm hp).1 hp hs).2.bys j b a hb ha
  | sunk=>exact hS
def aH3 (ps:List (Int × Int)):List Value:=(ps.map (fun p=>[Value.int .i64 p.1,Value.int .i64 p.2])).flatten
theorem az0 (ps:List (Int × Int)):(aH3 ps).length=ps.length*2:=by unfold aH3;rw[al2 (k:=2) _ (fun r hr=>by obtain⟨p,_,rfl⟩:=List.mem_map.1 hr;rfl),List.length_map]
theorem aH4 (ps:List (Int × Int)) (j:Nat) (p:Int × Int) (h:ps[j]? = some p) (i:Nat) (hi:i<2):(aH3 ps)[j*2+i]? = [Value.int .i64 p.1,Value.int .i64 p.2][i]?:=
 ad1 (k:=2) _ j _ (fun r hr=>by obtain⟨p,_,rfl⟩:=List.mem_map.1 hr;rfl) (by rw[List.getElem?_map,h];rfl) i hi
theorem bC8 (ai:Option Addr) (ci:Nat) (ps:List (Int × Int)) (w:World) (h:E2 w (.slice ai ps.length ci) ps) (hl:ps.length<=100000) :
 Calls Tryz.prog 123 #[.slice ai ps.length ci] w fun e w'=>∃a2 c2,e=.returned (.slice a2 ps.length c2)/\E2 w' (.slice a2 ps.length c2) ps/\(∀a,a2=some a->w.heap.size<=a.block)/\Bq w w':=by
 obtain⟨ao',cap',e,h2,h3,h4⟩:=h;injection e with e1 e2 e3;subst e1 e3;refine (bh3 ai ps.length ci (aH3 ps) w (az0 ps) hl (fun h0=>?_) (fun a ha j u hu=>?_) (fun u hu=>?_)).mono ?_
 .
  by_cases hn:ps.length=0
  . exact hn
  . obtain⟨b,off,e,_⟩:=h4 hn;rw[h0] at e
    cases e
 .
  have hjl:j<(aH3 ps).length:=(gSm hu).1;rw[az0] at hjl;obtain⟨b,off,e,hc⟩:=h4 (by omega);rw[ha] at e;injection e with e;subst e;rw[addP];obtain⟨p,hp⟩:∃p,ps[j / 2]? = some p:=⟨_,gEl (by omega)⟩;have hj:j=j / 2*2+j % 2:=by omega
  rw[hj,aH4 ps _ p hp _ (by omega)] at hu;obtain⟨c0,c1⟩:=hc _ p hp;have Aq:off+j=off+j / 2*2+j % 2:=by omega
  rw[Aq];have hm:j % 2<2:=by omega
  generalize j % 2=m at *;generalize j / 2=q at *;have:m=0\/m=1:=by omega
  rcases this with rfl | rfl
  all_goals
   simp at hu
   subst hu
   assumption
 . unfold aH3 at hu;rw[List.mem_flatten] at hu;obtain⟨l,hl2,hu⟩:=hu;obtain⟨p,_,rfl⟩:=List.mem_map.1 hl2;simp at hu;rcases hu with rfl | rfl <;> rfl
 .
  rintro e w' ⟨v',rfl,Ab,hb⟩;rcases id Ab.2 with ⟨rfl,h0⟩ | ⟨g,cap,cur,rfl,hB,hg,q1,q2,q3,q4⟩
  . refine⟨none,0,by rw[h0],⟨none,0,by rw[h0],by omega,by simp[maxLen],fun hn=>absurd h0 hn⟩,fun a h=>(by cases h),hb⟩
  . refine⟨some ⟨g,0,none⟩,cap,rfl,⟨_,cap,rfl,q1,q2,fun hn=>⟨g,0,rfl,fun j p hp=>?_⟩⟩,fun a h=>(by injection h with h;subst h;exact hB),hb⟩;have hjl:j<ps.length:=(gSm hp).1;rw[Nat.zero_add];have c0:=Ab.cellAt (j*2) (by omega);have c1:=Ab.cellAt (j*2+1) (by omega);have d0:=aH4 ps j p hp 0 (by omega);rw[Nat.add_zero] at d0;rw[d0] at c0;rw[aH4 ps j p hp 1 (by omega)] at c1;exact⟨c0,c1⟩
theorem j6 {w:World} {k:Nat} {a b c d e:Value} {t:TypeId} (h:w.heap[k]? = some (.cells #[a,b,c,d,e] t (0,0))) :
 w.cell? ⟨k,0,none⟩=some a/\w.cell? ⟨k,1,none⟩=some b/\w.cell? ⟨k,2,none⟩=some c/\w.cell? ⟨k,3,none⟩=some d/\w.cell? ⟨k,4,none⟩=some e /\ ∀j,w.frozen? ⟨k,j,none⟩=false:=by
 refine⟨?_,?_,?_,?_,?_,fun j=>frozen_of_row _ _ _ _ _ h⟩
 all_goals
  rw[cell_of_row _ _ _ _ _ _ h]
  rfl
def BX (w:World) (bm:Nat) (a b c d e:Value):Prop:=w.heap[bm]? = some (.cells #[a,b,c,d,e] 30 (0,0))/\w.heap[bm+1]? = some (.cells #[.slice none 0 0,.slice none 0 0,.slice none 0 0,.slice none 0 0,.slice none 0 0] 30 (0,0))
theorem BX.keep {w w':World} {bm:Nat} {a b c d e:Value} (h:BX w bm a b c d e) (hk:∀k,k=bm\/k=bm+1->w'.heap[k]? = w.heap[k]?):BX w' bm a b c d e:=⟨(hk _ (.inl rfl)).trans h.1,(hk _ (.inr rfl)).trans h.2⟩
theorem BX.lt {w:World} {bm:Nat} {a b c d e:Value} (h:BX w bm a b c d e):bm+1<w.heap.size:=(aSm h.2).1
theorem BX.below {w w':World} {bm:Nat} {a b c d e:Value} (h:BX w bm a b c d e) (hb:Bq w w'):BX w' bm a b c d e:=h.keep (fun k hk=>hb.block k (by have:=h.lt;omega))
theorem BX.other {w:World} {bm:Nat} {a b c d e:Value} (h:BX w bm a b c d e) {p:Addr} {v:Value} (hp:bm+1<p.block):BX (w.setCell p v) bm a b c d e:=h.keep (fun k hk=>Below.heap_setCell _ _ _ _ (by omega))
theorem BX.set {w:World} {bm:Nat} {cur:Array Value} {a b c d e:Value} {j:Nat} {v:Value} (h:w.heap[bm]? = some (.cells cur 30 (0,0))) (h2:w.heap[bm+1]? = some (.cells #[.slice none 0 0,.slice none 0 0,.slice none 0 0,.slice none 0 0,.slice none 0 0] 30 (0,0))) (hc:cur.setIfInBounds j v=#[a,b,c,d,e]):BX (w.setCell ⟨bm,j,none⟩ v) bm a b c d e:=by refine⟨?_,(Below.heap_setCell _ _ _ _ (by simp)).trans h2⟩;rw[setCell_eq_setRow w bm j cur _ (0,0) v h,<- hc];exact setRow_heap w bm cur _ _ _ h
theorem ce4 {rows:List FRow} {k:Nat} {r r':FRow} (h:rows[k]? = some r) (e:r'.1=r.1):(rows.set k r').map (·.1)=rows.map (·.1):=by rw[List.map_set,e];exact as8 (by rw[List.getElem?_map,h];rfl)
def NoBA (O:Nat->Option Own):Prop:=∀g,O g≠some .box/\O g≠some .aux
theorem NoBA.add {O:Nat->Option Own} (h:NoBA O) (w w':World) {o:Own} (h1:o≠Own.box) (h2:o≠Own.aux):NoBA (addO O w w' o):=by
 intro g;unfold addO;split
 . exact⟨fun e=>h1 (by injection e),fun e=>h2 (by injection e)⟩
 . exact h g
theorem NoBA.join {O OL:Nat->Option Own} (h:NoBA O) {ro:Own} {bo:Nat->Own} (hv:∀g o,OL g=some o->o=ro \/ ∃j,o=bo j) (h1:ro≠Own.box/\ro≠Own.aux) (h2:∀j,bo j≠Own.box/\bo j≠Own.aux) (w:World):NoBA (aj1 O OL w):=by
 intro g;unfold aj1;split
 . exact h g
 .
  refine⟨fun e=>?_,fun e=>?_⟩
  . rcases hv g _ e with e1 | ⟨j,e1⟩
    . exact h1.1 e1.symm
    . exact (h2 j).1 e1.symm
  . rcases hv g _ e with e1 | ⟨j,e1⟩
    . exact h1.2 e1.symm
    . exact (h2 j).2 e1.symm
theorem aY1 {fn:Func} {p:Tmp} {ty:TypeId} (h:fn.results=#[.cell p ty]) (tmps:Array Value) (P:Program) (w:World) :
 (results fn tmps).run P w=((asAddr (tmps.getD p undef)).run P w).andThen fun a w₁=>(loadVar ty a).run P w₁:=by simp only[results,h];simp[Sem.run_bind,Result.andThen]
def rowO (v:Value) (o:Own) (O:Nat->Option Own) (k:Nat):Option Own:=if some k=v.ownBlock then some o else O k
theorem br0 (v:Value) (o:Own) (O:Nat->Option Own):X7 (rowO v o O) v o:=fun g hg=>by unfold rowO;rw[if_pos hg.symm]
theorem bL1 {v:Value} {o:Own} {O:Nat->Option Own} {D:Nat} {w w':World} (h:OLo O D w) (hv:∀g,v.ownBlock=some g->D<=g/\g<w'.heap.size) (hs:w.heap.size<=w'.heap.size):OLo (rowO v o O) D w':=by
 intro g o' hg;unfold rowO at hg;split at hg
 . rename_i e;exact hv g e.symm
 . have:=h g o' hg;omega
theorem br1 {v:Value} {o:Own} {O:Nat->Option Own} (h:NoBA O) (h1:o≠Own.box) (h2:o≠Own.aux):NoBA (rowO v o O):=by
 intro g;unfold rowO;split
 . exact⟨fun e=>h1 (by injection e),fun e=>h2 (by injection e)⟩
 . exact h g
theorem ce5 {v:Value} {o:Own} {O:Nat->Option Own} {D:Nat} {w:World} (h:OLo O D w) (hv:∀g,v.ownBlock=some g->w.heap.size<=g):∀g o',O g=some o'->rowO v o O g=some o':=by
 intro g o' hg;unfold rowO;rw[if_neg]
 . exact hg
 . intro e;have:=hv g e.symm;have:=(h g o' hg).2;omega
def noO (k:Nat):Option Own:=none
theorem cv5 (D:Nat) (w:World):OLo noO D w:=fun g o hg=>by cases hg
theorem cp1:NoBA noO:=fun g=>⟨fun e=>(by cases e),fun e=>(by cases e)⟩
structure SmallC (M:SMach):Prop where
 ns:M.ns.length<=100000
 fs:M.fs.length<=100000
 xs:M.pipes.length<=100000
 ps:M.ps.length<=100000
 sunk:M.sunk.length<=100000
 ins:∀n∈M.ns,n.ins.length<=100000
 fb:∀f∈M.fs,f.b.length<=100000
 xb:∀x∈M.pipes,x.b.length<=100000
 pl:∀p∈M.ps,p.got.length<=100000/\p.out.length<=100000/\(∀b∈p.got,b.length<=100000) /\ ∀b∈p.out,b.length<=100000
theorem cp2 {rows:List NRow} {k:Nat} {r r':NRow} (h:rows[k]? = some r) (e:r'.1=r.1):(rows.set k r').map (·.1)=rows.map (·.1):=by rw[List.map_set,e];exact as8 (by rw[List.getElem?_map,h];rfl)
theorem aR7 {w:World} {B B':Nat} {e:TypeId} {size n:Nat} {v:Value} {xs:List Value} (h:w.ownsRow B e size v n xs) (hB:B'<=B):w.ownsRow B' e size v n xs:=by
 refine⟨h.1,?_⟩;rcases h.2 with h0 | ⟨g,cap,cur,e1,hb,h1⟩
 . exact .inl h0
 . exact .inr ⟨g,cap,cur,e1,by omega,h1⟩
theorem ao9 {w w':World} {g j:Nat} (hb:Bq w w') (hg:g<w.heap.size) (h:w.frozen? ⟨g,j,none⟩=false):w'.frozen? ⟨g,j,none⟩=false:=by have:=hb.block g hg;simp only[World.frozen?] at h ⊢;rw[this];exact h
theorem bd0 {bm j1 j2 g off BL:Nat} {v1 v3:Value} {fa:Option Addr} {fc:Nat} {b:List UInt8} {wr:World} (hBL:BL=b.length) (hrd:Reads wr (.slice fa b.length fc) b.length (b.map U)) (hl:b.length<=100000) (x1:wr.cell? ⟨bm,j1,none⟩=some v1) (c1:wr.cell? ⟨g,off,none⟩=some v3) (f1:wr.frozen? ⟨g,off,none⟩=false) :
 ∀W,Bq wr W->W.cell? ⟨wr.heap.size,j2,none⟩=some (.slice fa BL fc)->Calls Tryz.prog 125 #[.slice fa BL fc] W fun e w'=>∃a2 c2,e=.returned (.slice a2 BL c2)/\w'.cell? ⟨bm,j1,none⟩=some v1/\w'.cell? ⟨wr.heap.size,j2,none⟩=some (.slice fa BL fc)/\w'.cell? ⟨g,off,none⟩=some v3/\w'.frozen? ⟨g,off,none⟩=false/\Hid (w'.ownsRow wr.heap.size 5 1 (.slice a2 BL c2) BL (b.map U)/\Bq wr w'):=by intro W hW h7;subst hBL;refine (bi4 fa fc b W (hrd.below hW) hl).mono ?_;rintro e w' ⟨v',rfl,Ab,hb⟩;obtain⟨⟨a2,c2,hv,_,_⟩,_⟩:=j8 Ab;subst hv;have hB:=hW.trans (hb.mono hW.size);exact⟨a2,c2,rfl,(hB.cell (bLt wr _ x1)).trans x1,(hb.cell (bLt W _ h7)).trans h7,(hB.cell (bLt wr _ c1)).trans c1,ao9 hB (bLt wr _ c1) f1,⟨aR7 Ab hW.size,hB⟩⟩
theorem bd1 {bm j1 g o1 o2 GL:Nat} {v1 v3 v4 u1 u2:Value} {fa:Option Addr} {fc:Nat} {l:List (List UInt8)} {wr:World} (ro:Own) (bo:Nat->Own) (hne:∀j,bo j≠ro) (hGL:GL=l.length) (hrd:RList wr (.slice fa l.length fc) U l) (hn:l.length<=100000) (hl:∀b∈l,b.length<=100000) (x1:wr.cell? ⟨bm,j1,none⟩=some v1) (c1:wr.cell? ⟨g,o1,none⟩=some v3) (f1:wr.frozen? ⟨g,o1,none⟩=false) (c2:wr.cell? ⟨g,o2,none⟩=some v4) (f2:wr.frozen? ⟨g,o2,none⟩=false) :
 ∀W,Bq wr W->W.cell? ⟨wr.heap.size,0,none⟩=some u1->W.cell? ⟨wr.heap.size,2,none⟩=some u2->Calls Tryz.prog 128 #[.slice fa GL fc] W fun e w'=>∃a2 d2,e=.returned (.slice a2 GL d2)/\w'.cell? ⟨bm,j1,none⟩=some v1/\w'.cell? ⟨wr.heap.size,0,none⟩=some u1/\w'.cell? ⟨wr.heap.size,2,none⟩=some u2/\w'.cell? ⟨g,o1,none⟩=some v3/\w'.frozen? ⟨g,o1,none⟩=false/\w'.cell? ⟨g,o2,none⟩=some v4/\w'.frozen? ⟨g,o2,none⟩=false/\Hid (∃ss OL,CL w' wr.heap.size OL ro bo (.slice a2 GL d2) ss l/\OLo OL wr.heap.size w'/\OLo OL W.heap.size w' /\ ∀g o,OL g=some o->o=ro \/ ∃j,o=bo j)/\Hid (Bq W w')/\Hid (Bq wr w'):=by intro W hW h0 h2;subst hGL;refine (bC7 ro bo hne fa fc l W (hrd.below hW) hn hl).mono ?_;rintro e w' ⟨v',ss,OL,rfl,hc,hlo,hb⟩;obtain⟨⟨a2,d2,hv,_,_⟩,_⟩:=j8 hc.own;subst hv;have hB:=hW.trans (hb.mono hW.size);exact⟨a2,d2,rfl,(hB.cell (bLt wr _ x1)).trans x1,(hb.cell (bLt W _ h0)).trans h0,(hb.cell (bLt W _ h2)).trans h2,(hB.cell (bLt wr _ c1)).trans c1,ao9 hB (bLt wr _ c1) f1,(hB.cell (bLt wr _ c2)).trans c2,ao9 hB (bLt wr _ c2) f2,(show ∃ss OL,_ from ⟨ss,OL,hc.lower hW.size,fun g o hg=>(by have:=hlo.1 g o hg;have:=hW.size;omega),hlo.1,hlo.2⟩),hb,hB⟩
end Go.Proofs.YtllgglolcgdehaaGreatDoor
namespace Go.Gs
open Go.RowKit
set_option linter.unusedVariables false
theorem bC9 (l:List UInt8) (c:UInt8):∀(acc m:Nat),Lib.parseUint10 acc l=.ok m->Lib.parseUint10 acc (l++[c])=Lib.parseUint10 m [c]:=by
 induction l with
 | nil=>
  intro acc m h
  simp only[Lib.parseUint10] at h
  injection h with h
  rw[h];rfl
 | cons a l ih=>
  intro acc m h
  rw[List.cons_append,Lib.parseUint10]
  rw[Lib.parseUint10] at h
  split at h
  .
   rename_i h1
   rw[if_pos h1]
   split at h
   . cases h
   .
    rename_i h2
    rw[if_neg h2]
    split at h
    . cases h
    . rename_i h3
      rw[if_neg h3]
      exact ih _ _ h
  . cases h
theorem ap0 (d:Nat) (h:d<10):(UInt8.ofNat (48+d)).toNat=48+d:=by rw[UInt8.toNat_ofNat'];exact Nat.mod_eq_of_lt (by omega)
theorem bi6:∀u:Nat,u<=1000000->Lib.parseUint10 0 (Lib.decDigits u)=.ok u:=by
 intro u
 induction u using Nat.strongRecOn with
 | ind u ih=>
  intro hu
  rw[Lib.decDigits]
  split
  . rename_i h
    simp only[Lib.parseUint10,ap0 u h]
    rw[if_pos (by omega),if_neg (by omega),if_neg (by omega)]
    congr 1;omega
  . rename_i h
    rw[bC9 _ _ _ _ (ih (u / 10) (by omega) (by omega))]
    simp only[Lib.parseUint10,ap0 (u % 10) (Nat.mod_lt _ (by omega))]
    rw[if_pos (by omega),if_neg (by omega),if_neg (by omega)]
    congr 1;omega
theorem br2:∀u:Nat,∃c r,Lib.decDigits u=c::r/\48<=c.toNat/\c.toNat<=57:=by
 intro u
 induction u using Nat.strongRecOn with
 | ind u ih=>
  rw[Lib.decDigits]
  split
  . rename_i h
    exact⟨_,[],rfl,by rw[ap0 u h];omega,by rw[ap0 u h];omega⟩
  . rename_i h
    obtain⟨c,r,e,h1,h2⟩:=ih (u / 10) (by omega)
    exact⟨c,r++[UInt8.ofNat (48+u % 10)],by rw[e];rfl,h1,h2⟩
theorem aD9 (k:Nat) (h:k<=1000000):Lib.atoiAll (Lib.itoa (k:Int))=.ok (k:Int):=by
 have e:Lib.itoa (k:Int)=Lib.decDigits k:=by unfold Lib.itoa;rw[if_neg (by omega)];simp
 obtain⟨c,r,e1,h1,h2⟩:=br2 k;have hp:=bi6 k h;rw[e];rw[e1] at hp ⊢;rw[Lib.atoiAll_plain c r (by omega) (by omega)];unfold Lib.parseMag;rw[if_neg (by simp),hp];unfold Lib.signless;simp only;rw[if_neg (by omega)]
theorem ce6 {s:List UInt8} {n:Int} (h:Lib.atoiAll s=.ok n):numOf s=if 0<=n/\n<=4000/\Lib.itoa n=s then n.toNat else 0:=by
 split
 . rename_i hc;obtain⟨h0,h1,h2⟩:=hc;obtain⟨k,rfl⟩:=Int.eq_ofNat_of_zero_le h0;rw[<- h2,Int.toNat_natCast,aP4 k (by omega)]
 . rename_i hc;apply aP5;intro k hk e;rw[<- e,aD9 k (by omega)] at h;injection h with h;exact hc ⟨by omega,by omega,by rw[<- h];exact e⟩
theorem bQ2 {s:List UInt8} (h:∀n,Lib.atoiAll s≠.ok n):numOf s=0:=by apply aP5;intro k hk e;exact h k (by rw[<- e];exact aD9 k (by omega))
theorem aw8 {p:Option (List UInt8)} {f:SFile} (h:fbad p f=0):isWord f.name=true/\f.b.length<=4000 /\ ∀q,p=some q->q<f.name:=by
 unfold fbad at h;split at h
 . cases h
 .
  split at h
  . cases h
  . rename_i h1 h2;refine⟨by simpa using h1,by omega,?_⟩;intro q hq;subst hq;simp only at h;split at h
    . assumption
    . cases h
theorem J7 {p:Option (List UInt8)} {f:SFile} {r:List SFile}:q8 p (f::r)=0 ↔ fbad p f=0/\q8 (some f.name) r=0:=by
 rw[q8];split
 . rename_i h;simp[h]
 . rename_i h;simp[h]
theorem aA6:∀{l:List SFile} {q:List UInt8},q8 (some q) l=0 -> ∀f∈l,q<f.name
 | [],_,_,f,hf=>by cases hf
 | g::r,q,h,f,hf=>by
  rw[J7] at h
  have h1:=(aw8 h.1).2.2 q rfl
  rw[List.mem_cons] at hf
  rcases hf with rfl | hf
  . exact h1
  . exact List.lt_trans h1 (aA6 h.2 f hf)
theorem br3 {a b:List UInt8} (h:a<b):a≠b:=by rintro rfl;exact List.lt_irrefl a h
theorem as9 (f:SFile) (r:List SFile) (n:List UInt8):D8 (f::r) n=if f.name=n then f.b else D8 r n:=by
 unfold D8;by_cases h:f.name=n
 . simp[h]
 . rw[List.find?_cons_of_neg (by simp[h]),if_neg h]
theorem aL4:∀{l:List SFile} {n:List UInt8},(∀f∈l,f.name≠n)->D8 l n=[]
 | [],_,_=>rfl
 | f::r,n,h=>by
  rw[as9,if_neg (h f (by simp)),aL4 (fun g hg=>h g (by simp[hg]))]
theorem aH5 {a b:List UInt8} (h1:¬a<b) (h2:¬b=a):b<a:=by
 have h3:b<=a:=List.not_lt.1 h1;by_cases h:b<a
 . exact h
 . exact absurd (List.le_antisymm h3 (List.not_lt.1 h)) h2
theorem I0 {l:List SFile} (h:fchk l=0):l.length<=12/\q8 none l=0:=by
 unfold fchk at h;split at h
 . cases h
 . exact⟨by omega,h⟩
def whole (b:List UInt8):Prop:=ended (lines b)=b
theorem J2:∀{l:List SFile} {p:Option (List UInt8)},q8 p l=0 -> ∀f∈l,isWord f.name=true/\f.b.length<=4000
 | [],_,_,f,hf=>by cases hf
 | g::r,p,h,f,hf=>by
  rw[J7] at h
  rw[List.mem_cons] at hf
  rcases hf with rfl | hf
  . exact⟨(aw8 h.1).1,(aw8 h.1).2.1⟩
  . exact J2 h.2 f hf
def K2:List SFile->List UInt8->Nat
 | [],_=>0
 | f::r,n=>if f.name<n then K2 r n+1 else 0
def E3 (l:List SFile) (n:List UInt8):Bool:=match l[K2 l n]? with
 | some f=>decide (f.name=n)
 | none=>false
theorem aR8:∀(l:List SFile) (n:List UInt8),K2 l n<=l.length
 | [],n=>Nat.le_refl _
 | f::r,n=>by
  unfold K2
  split
  . have:=aR8 r n;simp;omega
  . exact Nat.zero_le _
theorem bL2:∀{l:List SFile} {p:Option (List UInt8)} {n:List UInt8} {h:Nat} {f:SFile},q8 p l=0->l[h]? = some f->(f.name<n ↔ h<K2 l n)
 | [],p,n,h,f,_,e=>by simp at e
 | g::r,p,n,h,f,hr,e=>by
  obtain⟨h1,h2⟩:=J7.1 hr
  unfold K2
  by_cases hg:g.name<n
  .
   rw[if_pos hg]
   cases h with
   | zero=>simp at e;subst e;simp[hg]
   | succ h=>
    have:=bL2 (n:=n) h2 (h:=h) (f:=f) (by simpa using e)
    rw[this];omega
  .
   rw[if_neg hg]
   cases h with
   | zero=>simp at e;subst e;simp[hg]
   | succ h=>
    have hm:f∈r:=mGt (by simpa using e)
    have:=aA6 h2 f hm
    constructor
    . intro hf;exact absurd (List.lt_trans this hf) hg
    . intro hf;omega
theorem bD0 {l:List SFile} {n:List UInt8} {f:SFile} (h:l[K2 l n]? = some f):E3 l n=decide (f.name=n):=by unfold E3;rw[h]
theorem bD1 {l:List SFile} {n:List UInt8} (h:¬K2 l n<l.length):E3 l n=false:=by unfold E3;rw[List.getElem?_eq_none (by omega)]
theorem aw9 {l:List SFile} {n:List UInt8} (h:E3 l n=true):∃f,l[K2 l n]? = some f/\f.name=n:=by
 unfold E3 at h;split at h
 . rename_i f e;exact⟨f,e,of_decide_eq_true h⟩
 . cases h
theorem ap1 {f:SFile} {r:List SFile} {n:List UInt8} (h:f.name<n):E3 (f::r) n=E3 r n:=by unfold E3;rw[show K2 (f::r) n=K2 r n+1 by rw[K2,if_pos h],List.getElem?_cons_succ]
theorem ap2 {f:SFile} {r:List SFile} {n:List UInt8} (h:¬f.name<n):E3 (f::r) n=decide (f.name=n):=by unfold E3;rw[show K2 (f::r) n=0 by rw[K2,if_neg h],List.getElem?_cons_zero]
theorem ap5:∀{l:List SFile} {p:Option (List UInt8)} {n:List UInt8} {f:SFile},q8 p l=0->E3 l n=true->l[K2 l n]? = some f->D8 l n=f.b
 | [],p,n,f,_,_,e=>by simp at e
 | g::r,p,n,f,hr,ht,e=>by
  obtain⟨h1,h2⟩:=J7.1 hr
  rw[as9]
  by_cases hg:g.name<n
  . rw[if_neg (br3 hg)]
    rw[ap1 hg] at ht
    rw[K2,if_pos hg,List.getElem?_cons_succ] at e
    exact ap5 h2 ht e
  . rw[ap2 hg] at ht
    rw[K2,if_neg hg,List.getElem?_cons_zero] at e
    injection e with e
    rw[if_pos (of_decide_eq_true ht),e]
theorem aE0:∀{l:List SFile} {p:Option (List UInt8)} {n:List UInt8},q8 p l=0->E3 l n=false->D8 l n=[]
 | [],p,n,_,_=>rfl
 | g::r,p,n,hr,ht=>by
  obtain⟨h1,h2⟩:=J7.1 hr
  rw[as9]
  by_cases hg:g.name<n
  . rw[if_neg (br3 hg)]
    rw[ap1 hg] at ht
    exact aE0 h2 ht
  . rw[ap2 hg] at ht
    have hne:=of_decide_eq_false ht
    rw[if_neg hne]
    have hlt:n<g.name:=aH5 hg (fun e=>hne e.symm)
    exact aL4 (fun f hf=>Ne.symm (br3 (List.lt_trans hlt (aA6 h2 f hf))))
end Go.Gs
namespace Go.Proofs.YtllgglolcgdehaaGreatDoor
open Go.RowKit Go.Gs
set_option linter.unusedVariables false
theorem F6 {w:World} {o:Obj}:Bq w (w.alloc o):=(Below.refl _ w).alloc (Nat.le_refl _) o
theorem am3 {w:World} {ao:Option Addr} {n cap:Nat} {xs:List Value} (h:Reads w (.slice ao n cap) n xs):n<=9223372036854775807:=by obtain⟨_,c,e,h1,h2⟩:=h.shape;unfold maxLen at h2;omega
theorem aO8 (a b:List UInt8):((⟨a.toArray⟩:ByteArray).toList == (⟨b.toArray⟩:ByteArray).toList)=decide (a=b):=by
 by_cases h:a=b
 . subst h;simp
 . simp[h]
theorem br4:∀(x y:List UInt8),Op.bytesLess x y=decide (x<y)
 | [],[]=>by simp[Op.bytesLess]
 | _::_,[]=>by simp[Op.bytesLess]
 | [],_::_=>by simp[Op.bytesLess]
 | a::x,b::y=>by
  rw[Op.bytesLess,br4 x y]
  simp only[List.cons_lt_cons_iff]
  by_cases h1:a<b <;> by_cases h2:a=b <;> by_cases h3:x<y <;> simp[h1,h2,h3]
theorem bD2 {w w':World} {a b:Value} {t:TypeId} (h:Below (w.alloc (.cells #[a,b] t)).heap.size (w.alloc (.cells #[a,b] t)) w'):w'.cell? ⟨w.heap.size,0,none⟩=some a/\w'.cell? ⟨w.heap.size,1,none⟩=some b:=by have hk:w'.heap[w.heap.size]? = some (.cells #[a,b] t (0,0)):=(h.block _ (by simp)).trans (heap_alloc_new w _);simp[World.cell?,hk]
def M9:Option (List UInt8)->List SFile->Option (List UInt8)
 | q,[]=>q
 | _,g::a=>M9 (some g.name) a
theorem aA7:∀(a:List SFile) (q:Option (List UInt8)) (f:SFile) (r:List SFile),q8 q a=0->q8 q (a++f::r)=if fbad (M9 q a) f=0 then q8 (some f.name) r else fbad (M9 q a) f
 | [],q,f,r,_=>rfl
 | g::a,q,f,r,h=>by
  rw[q8] at h
  split at h
  . rename_i h1
    rw[List.cons_append,q8,if_pos h1,aA7 a _ f r h]
    rfl
  . rename_i h1;exact absurd h h1
theorem bd2:∀(a:List SFile) (q:Option (List UInt8)) (g:SFile),M9 q (a++[g])=some g.name
 | [],q,g=>rfl
 | x::a,q,g=>by rw[List.cons_append,M9];exact bd2 a _ g
theorem bQ3 {fs:List SFile} {k:Nat} {g:SFile} (h:fs[k]? = some g):M9 none (fs.take (k+1))=some g.name:=by rw[List.take_add_one,h];exact bd2 _ _ _
theorem ce7 {fs:List SFile} {k:Nat} {f:SFile} (h:fs[k]? = some f):fs=fs.take k++f::fs.drop (k+1):=by obtain⟨hk,e⟩:=gSm h;rw[<- e,<- List.drop_eq_getElem_cons hk,List.take_append_drop]
theorem aR9 {fs:List SFile} {k:Nat} {f:SFile} (h:fs[k]? = some f) (h0:q8 none (fs.take k)=0) (hb:fbad (M9 none (fs.take k)) f≠0):q8 none fs=fbad (M9 none (fs.take k)) f:=by have e:=aA7 (fs.take k) none f (fs.drop (k+1)) h0;rw[<- ce7 h,if_neg hb] at e;exact e
theorem bd3 {fs:List SFile} {k:Nat} {f:SFile} (h:fs[k]? = some f) (h0:q8 none (fs.take k)=0) (hb:fbad (M9 none (fs.take k)) f=0):q8 none (fs.take (k+1))=0:=by rw[List.take_add_one,h];have e:=aA7 (fs.take k) none f [] h0;rw[if_pos hb] at e;exact e
theorem belowq {B:Nat} {a w:World} (h:Below B a w) (q:Nat):Below B a (w.drewN q):=⟨h.os,h.tape,h.output,h.size,h.block⟩
theorem ce8 {fs:List SFile} (h:¬12<fs.length):fchk fs=q8 none fs:=by unfold fchk;rw[if_neg h]
theorem bD3 {α:Type} {a b:List α} {k:Nat} {x y:α} (ha:a[k]? = some x) (hb:b[k]? = some y) (h:x≠y):a≠b:=by intro e;rw[e,hb] at ha;injection ha with ha;exact h ha.symm
theorem aS0 {α:Type} {a b:List α} {k:Nat} {x:α} (h:a.take k=b.take k) (ha:a[k]? = some x) (hb:b[k]? = some x):a.take (k+1)=b.take (k+1):=by rw[List.take_add_one,List.take_add_one,h,ha,hb]
theorem addF {b off j:Nat}:(⟨b,off,none⟩:Addr).add j=⟨b,off+j,none⟩:=by unfold Addr.add;split <;> simp_all
end Go.Proofs.YtllgglolcgdehaaGreatDoor
namespace Go.Gs
open Go.RowKit
set_option linter.unusedVariables false
def capB (ns:List SNode) (k:Nat):Nat:=4001*cnt 1 (ns.take k)+20*k
theorem bd4 {ns:List SNode} {k:Nat} {n:SNode} (h:ns[k]? = some n):capB ns (k+1)=capB ns k+(if n.kind=1 then 4001 else 0)+20:=by unfold capB;rw[ac6 h,V6,ao8];split <;> omega
theorem bL3 {ns:List SNode} (h60:ns.length<=60) (k:Nat) (hk:k<=ns.length):capB ns k<=250000:=by have:=cnt_le 1 (ns.take k);rw[List.length_take] at this;unfold capB;omega
theorem bQ4 {ns:List SNode} {k:Nat} (hk:k<=ns.length):capB ns k<=capB ns ns.length:=by
 unfold capB;have h1:ns.take ns.length=ns.take k++ns.drop k:=by rw[List.take_length,List.take_append_drop]
 rw[h1,V6];omega
theorem az1 {n:SNode} (h:l7 n=0) (fs:List SFile) (hf:∀f∈fs,f.b.length<=4000) (ins:List (List UInt8)) (hi:ins.length=n.ins.length) (hl:ins.flatten.length<=900000) :
 (i8 n fs ins).flatten.length<=ins.flatten.length+(if n.kind=1 then 4001 else 0)+20:=by
 obtain⟨h1,h2,_⟩:=G8 h;unfold i8;rcases I9 h1 with ⟨h3 | h3,_⟩ | ⟨h3,h4,h5⟩ | ⟨h3,h4⟩ | ⟨h3,h4⟩
 .
  rw[if_pos h3];have e1:=E5 (D8 fs n.file);have e2:(D8 fs n.file).length<=4000:=by
   unfold D8
   cases hq:fs.find? (fun f=>f.name == n.file) with
   | none=>simp
   | some f=>exact hf f (List.mem_of_find?_eq_some hq)
  rw[al4];try rw[if_pos h3]
  omega
 . rw[if_neg (by omega),if_neg (by omega),if_neg (by omega),if_neg (by omega)];simp
 .
  rw[if_neg (by omega),if_pos h3,ar9 _ _ (by omega)];have e1:=E5 (ins.head?.getD []);have e2:(ins.head?.getD []).length<=ins.flatten.length:=by
   cases ins with
   | nil=>simp
   | cons a r=>simp
  omega
 .
  rw[if_neg (by omega),if_neg (by omega),if_pos h3];have e1:=E5 (ins.head?.getD []);have e2:(ins.head?.getD []).length<=ins.flatten.length:=by
   cases ins with
   | nil=>simp
   | cons a r=>simp
  have e3:=al3 n.c h4 (lines (ins.head?.getD [])) (by have:=G5 (ins.head?.getD []);omega);rw[al4];omega
 . rw[if_neg (by omega),if_neg (by omega),if_neg (by omega),if_pos h3];have h5:ins.length<=5:=by rw[hi];unfold M1 at h2;rw[if_neg (by omega),if_pos h3] at h2;exact (of_decide_eq_true h2).2
   have e1:=ar8 n.how n.c (ar7 h4) (ins.map lines) (by have:=ac5 ins;omega) (by simpa using h5);have e2:=ah0 ins;rw[al4];omega
def aS1 (fs:List SFile) (ns:List SNode) (k:Nat):Prop:=
 ∃(tk:List (Int × Int)) (L:J1),y8 [] ns []=y8 (ns.take k) (ns.drop k) tk/\J1.sum L<=capB ns k /\
  ∀p,A7 (ns.take k) p=true->p∉tk->(p,(j3 (j5 fs [] (ns.take k)) p).length)∈L
theorem aS2 {fs:List SFile} {ns:List SNode} {k:Nat} {n:SNode} (hg:(y8 [] ns []).1=0) (ha:aS1 fs ns k) (hn:ns[k]? = some n) :
 l7 n=0/\(∀p∈n.ins,A7 (ns.take k) p=true)/\((ns.drop (k+1)).isEmpty=decide (n.kind=5))/\(n.ins.map (j3 (j5 fs [] (ns.take k)))).flatten.length<=capB ns k:=by obtain⟨tk,L,h1,h2,h3⟩:=ha;rw[h1,Y0 hn] at hg;obtain⟨e1,e2,e3,e4⟩:=V2 hg;obtain⟨f1,f2,f3⟩:=aa2 _ _ _ e2;refine⟨e1,fun p hp=>(f2 p hp).1,e3,?_⟩;obtain⟨L',g1,_⟩:=ah2 (fun p=>(j3 (j5 fs [] (ns.take k)) p).length) n.ins L f3 (fun p hp=>h3 p (f2 p hp).1 (f2 p hp).2);rw[as0,List.map_map];have:(List.map (List.length ∘ j3 (j5 fs [] (ns.take k))) n.ins).sum=(List.map (fun p=>(j3 (j5 fs [] (ns.take k)) p).length) n.ins).sum:=rfl;omega
theorem bi7 (fs:List SFile) (ns:List SNode):aS1 fs ns 0:=⟨[],[],by simp,by simp[J1.sum,capB],fun p h=>by
 obtain⟨i,j,n,_,hn,_⟩:=U1 h
 simp at hn⟩
theorem br5 {fs:List SFile} {ns:List SNode} {k:Nat} {n:SNode} (hf:∀f∈fs,f.b.length<=4000) (h60:ns.length<=60) (hg:(y8 [] ns []).1=0) (ha:aS1 fs ns k) (hn:ns[k]? = some n):aS1 fs ns (k+1):=by
 have hk:k<ns.length:=(gSm hn).1;obtain⟨q1,q2,q3,q4⟩:=aS2 hg ha hn;obtain⟨tk,L,h1,h2,h3⟩:=ha;have hg0:=hg;rw[h1,Y0 hn] at hg;obtain⟨e1,e2,e3,e4⟩:=V2 hg;obtain⟨f1,f2,f3⟩:=aa2 _ _ _ e2;obtain⟨L',g1,g2⟩:=ah2 (fun p=>(j3 (j5 fs [] (ns.take k)) p).length) n.ins L f3 (fun p hp=>h3 p (f2 p hp).1 (f2 p hp).2);have hml:=az1 e1 fs hf (n.ins.map (j3 (j5 fs [] (ns.take k)))) (by simp) (by have:=bL3 h60 k (by omega);omega);obtain⟨outs,ho⟩:=qE (i8 n fs (n.ins.map (j3 (j5 fs [] (ns.take k)))));have Cc:=m9 e1 fs (n.ins.map (j3 (j5 fs [] (ns.take k))));have Ai:=al5 fs ns k hn;rw[<- ho] at hml Cc Ai;refine⟨tk++n.ins,L'++(List.range outs.length).map (fun (j:Nat)=>(((k:Int),(j:Int)),(outs[j]?.getD []).length)),?_,?_,?_⟩
 . rw[h1,Y0 hn,e4,f1,ac6 hn]
 . rw[J1.sum_append,ba6];have hs:(n.ins.map (j3 (j5 fs [] (ns.take k)))).flatten.length=(List.map (fun p=>(j3 (j5 fs [] (ns.take k)) p).length) n.ins).sum:=by rw[as0,List.map_map];rfl
   rw[bd4 hn];omega
 .
  intro p hp hpt;rw[List.mem_append,not_or] at hpt;obtain⟨i,j,m,rfl,hm,hj⟩:=U1 hp;rw[List.mem_append];have hik:i<(ns.take (k+1)).length:=(gSm hm).1;rw[List.length_take] at hik;rw[Ai];by_cases hlt:i<k
  .
   left;have hp':A7 (ns.take k) ((i:Int),(j:Int))=true:=by
    unfold A7;have hm':(ns.take k)[i]? = some m:=by rw[List.getElem?_take_of_lt hlt];rwa [List.getElem?_take_of_lt (by omega)] at hm
    simp only[Int.toNat_natCast,hm',Option.map_some,Option.getD_some,Bool.and_eq_true,decide_eq_true_eq];refine⟨⟨⟨by omega,?_⟩,by omega⟩,hj⟩;rw[List.length_take];omega
   have hin:=h3 _ hp' hpt.1;have hpa:j3 (j5 fs [] (ns.take k)++[outs]) ((i:Int),(j:Int))=j3 (j5 fs [] (ns.take k)) ((i:Int),(j:Int)):=by unfold j3;rw[List.getElem?_append_left (by rw[I7,List.length_take];simp;omega)]
   rw[hpa];exact g2 _ hin hpt.2
  . right;have Ua:i=k:=by omega
    subst Ua;have hmn:m=n:=by rw[List.getElem?_take_of_lt (by omega),hn] at hm;injection hm with hm;exact hm.symm
    subst hmn;rw[List.mem_map];refine⟨j,List.mem_range.2 (by omega),?_⟩;unfold j3;rw[List.getElem?_append_right (by rw[I7,List.length_take];simp;omega),I7,List.length_take,Nat.min_eq_left (by omega)];simp
theorem aS5 {fs:List SFile} {ns:List SNode} (hf:∀f∈fs,f.b.length<=4000) (h60:ns.length<=60) (hg:(y8 [] ns []).1=0):∀k,k<=ns.length->aS1 fs ns k
 | 0,_=>bi7 fs ns
 | k+1,h=>by
  have hk:k<ns.length:=by omega
  exact br5 hf h60 hg (aS5 hf h60 hg k (by omega)) (gEl hk)
theorem aE1:∀{l:List (List UInt8)} {b:List UInt8},b∈l->b.length<=l.flatten.length
 | [],b,h=>by simp at h
 | a::r,b,h=>by
  rw[List.flatten_cons,List.length_append]
  rcases List.mem_cons.1 h with rfl | h
  . omega
  . have:=aE1 h
    omega
theorem at0 {ns:List SNode} {fs:List SFile} (h:gchk ns=0) (hf:∀f∈fs,f.b.length<=4000) (hc:cnt 1 ns<=9):T0 ns fs:=by
 intro i k;obtain⟨h1,h2,h3,_⟩:=al6 h;rw[aQ6]
 cases hn:ns[i]? with
 | none=>
  have:(j5 fs [] ns)[i]? = none:=by
   rw[List.getElem?_eq_none_iff] at hn ⊢
   rw[I7]
   simpa using hn
  rw[this]
  simp
 | some n=>
  have hi:i<ns.length:=(gSm hn).1
  obtain⟨q1,q2,q3,q4⟩:=aS2 h2 (aS5 hf h1 h2 i (by omega)) hn
  have h4:=aQ3 fs ns hn (k:=ns.length) hi (Nat.le_refl _)
  rw[List.take_length] at h4
  rw[h4,Option.getD_some]
  have hcb:=bL3 h1 i (by omega)
  have h5:=az1 q1 fs hf (n.ins.map (j3 (j5 fs [] (ns.take i)))) (by simp) (by omega)
  have h6:=bd4 hn
  have h7:=bQ4 (ns:=ns) (k:=i+1) (by omega)
  have h8:capB ns ns.length<=37209:=by
   unfold capB
   rw[List.take_length]
   omega
  generalize i8 n fs (n.ins.map (j3 (j5 fs [] (ns.take i))))=L at *
  cases hk:L[k]? with
  | none=>simp
  | some b=>
   have:=aE1 (mGt hk)
   simp only[Option.getD_some]
   omega
end Go.Gs
