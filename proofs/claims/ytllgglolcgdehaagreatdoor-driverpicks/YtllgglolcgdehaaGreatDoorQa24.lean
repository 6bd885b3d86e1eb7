/- What the developers' read does, and more. -/
import Derived.Test.YtllgglolcgdehaaGreatDoorQAb
import Derived.Test.YtllgglolcgdehaaGreatDoorQa23
set_option maxRecDepth 100000
set_option maxHeartbeats 16000000
namespace Go.Proofs.YtllgglolcgdehaaGreatDoor
open Go.RowKit Go.Gs Go.Maps
set_option linter.unusedVariables false
variable {G:World->(Nat->Option Own)->Prop}
theorem bH9 (M:SMach) (i:Nat) (n:SNode) (q:Nat) (p p':SProc):K9 (M.setP i p') i n q p=K9 M i n q p:=by unfold K9 SMach.setP SMach.setX SMach.pipe;simp only[List.set_set]
theorem by4 {x:SPipe} (h:pchk x=0):pread x 8=(⟨x.b.drop 8,x.room,x.closed,x.shut⟩,x.b.take 8,0):=by
 unfold pread;rw[if_neg (by simp[h]),if_neg (by omega)];by_cases h8:8<=x.b.length
 . rw[Nat.min_eq_left (by simpa using h8)];rfl
 . rw[Nat.min_eq_right (by simp;omega),List.drop_of_length_le (by omega),List.drop_of_length_le (by omega),List.take_of_length_le (by omega),List.take_of_length_le (by omega)]
theorem aF3:∀{l:List (List UInt8)} {m:Nat} {g b:List UInt8},l[m]? = some g->(l.set m (g++b)).flatten.length=l.flatten.length+b.length
 | [],m,g,b,h=>by simp at h
 | a::r,0,g,b,h=>by
  simp at h
  subst h
  simp
  omega
 | a::r,m+1,g,b,h=>by
  have:=aF3 (l:=r) (b:=b) (by simpa using h)
  simp only[List.set_cons_succ,List.flatten_cons,List.length_append]
  omega
theorem aW0 {M:SMach} (hS:Shape M):M.pipes.length<=300:=by
 rw[hS.xlen];have:∀(l:List SNode),(∀m∈l,m.ins.length<=5)->(j7 l).length<=5*l.length:=by
  intro l
  induction l with
  | nil=>intro _;simp[j7]
  | cons m l ih=>
   intro hm
   have h1:=ih (fun m' hm'=>hm m' (by simp[hm']))
   have h2:=hm m (by simp)
   simp only[j7,List.map_cons,List.flatten_cons,List.length_append,List.length_cons] at *
   omega
 have h1:=this M.ns (fun m hm=>(y9 (hS.g.node m hm)).1);have:=hS.g.le60;omega
theorem ck1 (D r:Nat) (O:Nat->Option Own) (d:RD) (i q m:Nat) (n:SNode) (p:SProc) (x:SPipe) (g:List UInt8) (w:World) (h:RunM G w D r O d) (hS:Shape d.M) (hn:d.M.ns[i]? = some n) (hp:d.M.ps[i]? = some p) (hm:p.pos=(m:Int)) (hgm:p.got[m]? = some g) (hq:q=b7 d.M.ns i+m) (hx:d.M.pipes[q]? = some x) (Ad:M4 n) (hT:p.got.flatten.length<=241192) (hsm:∀b∈p.out,b.length<=90000000) (hsk:d.M.sunk.length<=90000000) (hE:∀W,Below D w W->t8 W) :
 Calls Tryz.prog 121 #[.pointer (some ⟨r,0,none⟩),.int .i64 i] w fun e w'=>e=.returned (.int .i64 (aK1 d.M i n q p).2)/\l6 G w' D r (aK1 d.M i n q p).1/\Below D w w':=by
 have hF:=hS.proc i n p hn hp;have hml:m<p.got.length:=(gSm hgm).1;have hat:p.at=g:=by unfold SProc.at;rw[hm,Int.toNat_natCast,hgm];rfl
 obtain⟨gP,cP,s,hvP,Dy,Fb,hgP,hOP,hs,p0,p1,p2,p3,p4,hfP,hGo,hOo,hgl,hol⟩:=h.procAt hp;obtain⟨gG,cG,a,hgv,Jk,Vr,hgG,hOG,ha,hSa,g0,hfG⟩:=RMem.gotAt h hp hs hgm;obtain⟨gX,cX,hvX,Hn,Fo,hOX⟩:=h.formX (Shape.pipes0 hS);obtain⟨t,ht,hRt,x0,x1,x2,x3,hfX,_,hgX⟩:=RMem.atX h hvX hx;obtain⟨gI,cI,hvI,Zv,hcI2,i0⟩:=h.firstAt hn;have hil:i<d.M.ps.length:=(gSm hp).1;have hin:i<d.M.ns.length:=(gSm hn).1;have hql:q<d.M.pipes.length:=(gSm hx).1;obtain⟨b0,b1,b2,b3,b4,b5,b6⟩:=O5 h.box.1;rw[hvP] at b3;rw[hvX] at b2;rw[hvI] at b5;rw[hgv] at p0;rw[hm] at p1;have hck:pchk x=0:=hS.pipe x (mGt hx);have Zw:d.M.pipes.length<=300:=aW0 hS;have hm5:m<=5:=by have:=(y9 (hS.g.node n (mGt hn))).1;have:=hF.glen;omega
 have hqi:IntKind.i64.wrap ((b7 d.M.ns i:Int)+(m:Int))=(q:Int):=by rw[IntKind.wrap_i64,hq];omega
 have Jv:d.M.pipe q=x:=aR3 hx;obtain⟨RES,Af⟩:=qE (aK1 d.M i n q p);rw[<- Af];have HH:=qH h;have HS:=qH hS;have HN:=qH hn;have HP:=qH hp;have HSl:=qH hs;have HX:=qH hx;have HGM:=qH hgm;have HA:=qH ha;have HGV:=qH hgv;have HVP:=qH hvP;have HVX:=qH hvX;have HM:=qH hm;have HF:=qH hF;have HQ:=qH hq;have HCK:=qH hck;have HRT:=qH hRt;have Hv:=qH Ad;have HSM:=qH hsm;have HSK:=qH hsk;have HE:=qH hE;have HT:=qH hT;have HAT:=qH hat;have HTX:=qH ht;have Bw:Hid (RES=if x.closed && x.b.isEmpty then (if p.pos+1=p.got.length then (d.M.setP i (D6 n d.M.fs ⟨p.got,p.pos+1,p.out,p.rd,p.ov⟩),0) else (d.M.setP i ⟨p.got,p.pos+1,p.out,p.rd,p.ov⟩,0)) else if x.b.isEmpty then (d.M,8) else (K9 (d.M.setX q ⟨x.b.drop 8,x.room,x.closed,x.shut⟩) i n q (p.setGot (g++x.b.take 8)),0)):=(show _=_ by rw[Af];unfold aK1;rw[Jv,hat])
 have HPO:Hid _:=fun W=>cd7 t.1 x.b.length t.2 x.room x.closed x.shut W;obtain⟨NP,hNP⟩:=qE d.M.ps.length;obtain⟨NN,hNN⟩:=qE d.M.ns.length;obtain⟨NX,hNX⟩:=qE d.M.pipes.length;obtain⟨GL,hGL⟩:=qE p.got.length;have HGL:=qH hGL;rw[<- hNP] at b3 hil Dy;rw[<- hNN] at b5 Zv hin;rw[<- hNX] at b2 Hn hql Zw;rw[<- hGL] at p0 Jk hml;obtain⟨FI,hFI⟩:=qE (b7 d.M.ns i);rw[<- hFI] at i0 hqi hq;unfold sl at x0;obtain⟨ta,tc⟩:=t;simp only at x0 HPO;obtain⟨XL,hXL⟩:=qE x.b.length;have HXL:=qH hXL;obtain⟨xr,hxr⟩:=qE x.room;obtain⟨xc,hxc⟩:=qE x.closed;obtain⟨xs,hxs⟩:=qE x.shut;have HXV:Hid (xr=x.room/\xc=x.closed/\xs=x.shut):=⟨hxr,hxc,hxs⟩;rw[<- hXL] at x0 HPO;rw[<- hxr] at x1 HPO;rw[<- hxc] at x2 HPO;rw[<- hxs] at x3 HPO;have Zx:FI<=300:=by omega
 clear h hS hn hp hs hx hgm ha hSa hgv hvP hvX hvI hOG hOP hOX hat hm hck hRt ht Ad hsm hsk hE hT hF hNP hNN hNX hGL hXL hxr hxc hxs Jv Af hGo hOo hgl hol hfP hfG hfX b0 b1 b4 b6 p2 p3 p4 hgX hgG hgP hFI hq g0;go_enter Tryz.func121,Tryz.ntmps121;go_wp2_with fail;go_quiet (fail);go_wp2_with fail;refine Calls.mono (HPO.out _) ?_;rintro e w2 ⟨rfl,hb2⟩;have Ft:Bq w w2:=(ak5 (n:=nq)).trans hb2;have hR2:=RMem.below HH.out Ft;have HR2:=qH hR2;have HB2:=qH Ft;have x0':=(Ft.cell (bLt w _ x0)).trans x0;have x1':=(Ft.cell (bLt w _ x1)).trans x1;have x2':=(Ft.cell (bLt w _ x2)).trans x2;have x3':=(Ft.cell (bLt w _ x3)).trans x3;obtain⟨gP2,cP2,s2,Og,_,_,_,hOP2,hs2,q0,q1,_,_,_,Vx,_⟩:=RMem.procAt hR2 HP.out;rw[HVP.out] at Og;injection Og with e1 e2 e3;injection e1 with e1;injection e1 with e1;subst e1;rw[HSl.out] at hs2;injection hs2 with hs2;subst hs2;rw[HGV.out] at q0
 rw[HM.out] at q1;have HOP2:=qH hOP2;rw[<- HGL.out] at q0;clear hb2 Ft hR2 e2 e3 hOP2 HPO b2 b3 b5 p0 p1 x0 x1 x2 x3 i0 hqi;by_cases hov:(xc && decide (XL=0))=true
 .
  have hxcT:xc=true:=by simp at hov;exact hov.1
  have hXL0:XL=0:=by simp at hov;exact hov.2
  have HR9:Hid (RES=if p.pos+1=p.got.length then (d.M.setP i (D6 n d.M.fs ⟨p.got,p.pos+1,p.out,p.rd,p.ov⟩),0) else (d.M.setP i ⟨p.got,p.pos+1,p.out,p.rd,p.ov⟩,0)):=(show _=_ by
   rw[Bw.out,if_pos]
   rw[<- HXV.out.2.1,hxcT]
   have:x.b=[]:=List.length_eq_zero_iff.1 (by rw[<- HXL.out];exact hXL0)
   rw[this]
   rfl)
  have hm1:IntKind.i64.wrap ((m:Int)+1)=(m:Int)+1:=by rw[IntKind.wrap_i64];omega
  have Bm:=RMem.setNum HR2.out (p':=⟨p.got,p.pos+1,p.out,p.rd,p.ov⟩) (u:=.int .i64 ((m:Int)+1)) (k:=1) HP.out HSl.out HVP.out HOP2.out (by omega) (by unfold I6;simp only[List.set_cons_succ,List.set_cons_zero];rw[HM.out]) rfl rfl;have hBD:Below D w (w2.setCell ⟨gP,i*5+1,none⟩ (.int .i64 ((m:Int)+1))):=(HB2.out.mono HH.out.le).setCell (HR2.out.lo _ _ HOP2.out).1 _;have Zz:Hid _:=Bm;have HBD:Hid _:=hBD;have hf1:=Vx (i*5+1);have Td:p.pos+1=p.got.length -> ∀N,Calls Tryz.prog 120 #[.pointer (some ⟨r,0,none⟩),.int .i64 i] ((w2.setCell ⟨gP,i*5+1,none⟩ (.int .i64 ((m:Int)+1))).drewN N) fun e w'=>e=.returned (.int .i64 0)/\l6 G w' D r (d.M.setP i (D6 n d.M.fs ⟨p.got,p.pos+1,p.out,p.rd,p.ov⟩))/\Below D w w':=by
   intro _ N;have hsg:=HS.out.toG;have hBN:Below D w ((w2.setCell ⟨gP,i*5+1,none⟩ (.int .i64 ((m:Int)+1))).drewN N):=hBD.trans ak5;have:=aV9 D r O (d.setProc i ⟨p.got,p.pos+1,p.out,p.rd,p.ov⟩ s) i n ⟨p.got,p.pos+1,p.out,p.rd,p.ov⟩ _ (RMem.below Bm (ak5 (n:=N))) ⟨hsg.gok,hsg.fok,by simpa[RD.setProc,SMach.setP] using hsg.plen⟩ HN.out (x8 HP.out) Hv.out (by have:=HT.out;show p.got.flatten.length<=_;omega) (fun b hb=>by have:=HSM.out b hb;omega) (fun W hW=>HE.out W (hBN.trans hW)) HF.out.olen HF.out.glen;have e1:(d.setProc i ⟨p.got,p.pos+1,p.out,p.rd,p.ov⟩ s).M.setP i (D6 n d.M.fs ⟨p.got,p.pos+1,p.out,p.rd,p.ov⟩)=d.M.setP i (D6 n d.M.fs ⟨p.got,p.pos+1,p.out,p.rd,p.ov⟩):=by unfold RD.setProc SMach.setP;simp only[List.set_set]
   have e2:(d.setProc i ⟨p.got,p.pos+1,p.out,p.rd,p.ov⟩ s).M.fs=d.M.fs:=rfl;rw[e2,e1] at this;refine this.mono ?_;rintro e w' ⟨h1,h2,h3⟩;exact⟨h1,h2,hBN.trans h3⟩
  have Gz:Hid _:=Td;rw[hov];clear Td Bm hBD Vx Bw x0' x1' x2' x3' hov;go_wp2_with fail;go_quiet (fail);by_cases hl:m+1=GL
  . have hlI:p.pos+1=(p.got.length:Int):=by rw[HM.out,<- HGL.out];omega
    have Hz:Hid (RES=(d.M.setP i (D6 n d.M.fs ⟨p.got,p.pos+1,p.out,p.rd,p.ov⟩),0)):=(show _=_ by rw[HR9.out,if_pos hlI]);have hlI':((m:Int)+1)=(GL:Int):=by omega
    have HF2:Hid _:=Gz.out hlI;rw[hlI'] at HF2;clear Gz HR9 hlI;go_wp2_with fail;refine Calls.mono (HF2.out _) ?_;rintro e w5 ⟨rfl,hb5⟩;have Am:Hid _:=hb5;clear hb5 HF2;go_wp2_with fail;go_ret;rw[Hz.out];exact⟨rfl,Am.out⟩
  . have hlI:¬p.pos+1=(p.got.length:Int):=by rw[HM.out,<- HGL.out];omega
    have Hz:Hid (RES=(d.M.setP i ⟨p.got,p.pos+1,p.out,p.rd,p.ov⟩,0)):=(show _=_ by rw[HR9.out,if_neg hlI]);have hlI':¬((m:Int)+1)=(GL:Int):=by omega
    have Am:Hid (∀N,l6 G ((w2.setCell ⟨gP,i*5+1,none⟩ (.int .i64 ((m:Int)+1))).drewN N) D r (d.M.setP i ⟨p.got,p.pos+1,p.out,p.rd,p.ov⟩)/\Below D w ((w2.setCell ⟨gP,i*5+1,none⟩ (.int .i64 ((m:Int)+1))).drewN N)):=(show ∀N,_/\_ from fun N=>⟨⟨O,d.setProc i ⟨p.got,p.pos+1,p.out,p.rd,p.ov⟩ s,RMem.below Zz.out ak5,rfl⟩,HBD.out.trans ak5⟩);clear Gz HR9 hlI;go_wp2_with fail;go_ret;rw[Hz.out];exact⟨rfl,Am.out _⟩
 .
  have hovF:(xc && decide (XL=0))=false:=by simpa using hov
  have HR9:Hid (RES=if x.b.isEmpty then (d.M,8) else (K9 (d.M.setX q ⟨x.b.drop 8,x.room,x.closed,x.shut⟩) i n q (p.setGot (g++x.b.take 8)),0)):=(show _=_ by
   rw[Bw.out,if_neg]
   rw[<- HXV.out.2.1]
   intro h
   rw[Bool.and_eq_true,List.isEmpty_iff] at h
   apply hov
   rw[h.1,HXL.out,h.2]
   rfl)
  have Vy:ROf w2 O (.pipe q) (ta,tc) x.b:=HR2.out.part (.pipe q) x (ta,tc) HX.out HTX.out;have hRD:=cp0 ta tc x 8 w2 Vy.1 Vy.2.1;rw[by4 HCK.out] at hRD;unfold ab9 at hRD;rw[<- HXL.out,<- HXV.out.1,<- HXV.out.2.1,<- HXV.out.2.2] at hRD;have HRD:Hid _:=hRD;rw[hovF];clear hRD Vy Vx Bw hov hovF q0 q1;go_wp2_with fail;refine Calls.mono HRD.out ?_;rintro e w3 ⟨ar,cr,ab,cb,rfl,hPr,hPb,hb3⟩;unfold ab9;simp only at hPr hPb ⊢;have HB3:=qH hb3;have HPR:=qH hPr;have HPBb:=qH hPb;obtain⟨DL,hDL⟩:=qE ((x.b.drop 8).length);obtain⟨TL,hTL⟩:=qE ((x.b.take 8).length);have HDL:=qH hDL;have HTL:=qH hTL;rw[<- hDL,<- hTL];clear hDL hTL hPr hPb hb3 HRD;by_cases he:x.b=[]
  .
   have hT0:TL=0:=by rw[HTL.out,he];rfl
   have Hz:Hid (RES=(d.M,8)):=(show _=_ by rw[HR9.out,he];rfl)
   have Am:Hid (∀o,l6 G (w3.alloc o) D r d.M/\Below D w (w3.alloc o)):=(show ∀o,_/\_ from fun o=>by
    have hR3:=RMem.below HR2.out HB3.out
    exact⟨⟨O,d,RMem.below hR3 boxE,rfl⟩,((HB2.out.mono HH.out.le).trans (HB3.out.mono HR2.out.le)).trans (boxE.mono hR3.le)⟩)
   subst hT0;clear HR9 he;go_wp2_with fail;go_ret;rw[Hz.out];exact⟨rfl,Am.out _⟩
  .
   have hT0:¬TL=0:=by rw[HTL.out];intro h0;rw[List.length_take] at h0;have:=List.length_pos_iff.2 he;omega
   have hT0':¬(TL:Int)=0:=by omega
   have hTL8:TL<=8:=by rw[HTL.out,List.length_take];omega
   have Hz:Hid (RES=(K9 (d.M.setX q ⟨x.b.drop 8,x.room,x.closed,x.shut⟩) i n q (p.setGot (g++x.b.take 8)),0)):=(show _=_ by
    rw[HR9.out,if_neg]
    rw[List.isEmpty_iff]
    exact he)
   have hR3:=RMem.fresh HR2.out HB3.out (.pipe q);have Ly:=bc8 (O:=O) (o:=.pipe q) HPR.out;obtain⟨W4,hW4⟩:=qE (w3.alloc (.cells #[.slice ar DL cr,.int .i64 xr,.bool xc,.bool xs] 66));have Bc:W4.heap[w3.heap.size]? = some (.cells #[.slice ar DL cr,.int .i64 xr,.bool xc,.bool xs] 66 (0,0)):=by rw[hW4];exact heap_alloc_new _ _
   have Hq:Bq w3 W4:=by rw[hW4];exact boxE
   have hR4:=RMem.below hR3 Hq;have hBD:Below D w W4:=(HB2.out.mono HH.out.le).trans ((HB3.out.mono HR2.out.le).trans (Hq.mono hR3.le));have Ii:ROf W4 (addO O w2 w3 (.pipe q)) (.pipe q) (ar,cr) (x.b.drop 8):=Ly.keep (fun k' hk'=>Hq.block k' (hR3.lo k' _ hk').2) (fun _ _ _=>rfl);obtain⟨t4,ht4,_,y0,y1,y2,y3,gfX,gOX,gX4⟩:=RMem.atX hR4 HVX.out HX.out;obtain⟨m0,m1,m2,m3⟩:=E7 Bc;have k1:=RMem.setPipe hR4 (x':=⟨x.b.drop 8,x.room,x.closed,x.shut⟩) (s':=(ar,cr)) HX.out HVX.out gOX Ii;obtain⟨W5,hW5⟩:=qE (((((W4.setCell ⟨gX,q*4,none⟩ (sl (x.b.drop 8) (ar,cr))).setCell ⟨gX,q*4+1,none⟩ (.int .i64 x.room)).setCell ⟨gX,q*4+2,none⟩ (.bool x.closed)).setCell ⟨gX,q*4+3,none⟩ (.bool x.shut)));rw[<- hW5] at k1;have hDX:D<=gX:=(hR4.lo _ _ gOX).1;have hgX2:gX<w2.heap.size:=by have:=(RMem.atX HR2.out HVX.out HX.out);obtain⟨_,_,_,_,_,_,_,_,_,h9⟩:=this;exact h9
   have hBD5:Below D w W5:=by rw[hW5];exact (((hBD.setCell hDX _).setCell hDX _).setCell hDX _).setCell hDX _
   have hrb5:Reads W5 (.slice ab TL cb) TL ((x.b.take 8).map U):=by
    have h1:=HPBb.out.1;rw[<- HTL.out] at h1;refine ad8 (h1.below Hq) (fun a ha=>?_);have hne:a.block≠gX:=by have:=HPBb.out.2.1 a ha;omega
    rw[hW5,Below.heap_setCell _ _ _ _ hne,Below.heap_setCell _ _ _ _ hne,Below.heap_setCell _ _ _ _ hne,Below.heap_setCell _ _ _ _ hne]
   have Oh:=RMem.below k1 ((Below.refl _ W5).drew);have hP5:(d.setPipe q ⟨x.b.drop 8,x.room,x.closed,x.shut⟩ (ar,cr)).M.ps[i]? = some p:=HP.out;have hS5:(d.setPipe q ⟨x.b.drop 8,x.room,x.closed,x.shut⟩ (ar,cr)).P[i]? = some s:=HSl.out;obtain⟨gP5,cP5,s5,hvP5,_,_,hgP5,hOP5,hs5,r0,r1,_⟩:=RMem.procAt Oh hP5;rw[show (d.setPipe q ⟨x.b.drop 8,x.room,x.closed,x.shut⟩ (ar,cr)).vP=d.vP from rfl,HVP.out] at hvP5;injection hvP5 with e1 e2 e3;injection e1 with e1;injection e1 with e1;subst e1;rw[hS5] at hs5;injection hs5 with hs5;subst hs5;rw[HGV.out] at r0;rw[HM.out] at r1;obtain⟨gG5,cG5,a5,hgv5,_,_,Vz,Wa,ha5,hSa5,u0,hfG5⟩:=RMem.gotAt Oh hP5 hS5 HGM.out;rw[HGV.out] at hgv5;injection hgv5 with e4 e5 e6;injection e4 with e4;injection e4 with e4;subst e4
   have Tf:Reads W5.drew (.slice ab (x.b.take 8).length cb) (x.b.take 8).length ((x.b.take 8).map U):=by have:=hrb5.below ((Below.refl _ W5).drew);rw[HTL.out] at this;exact this
   obtain⟨s7,w7,O7,Ao,hR7,Oe,Hy,Fz⟩:=RMem.appendGot Oh hP5 hS5 HGM.out ha5 Tf (by have h2:=L9 (mGt HGM.out);have:=HT.out;have:=HTL.out;omega) 28;have Wb:O7 gG=some (.gots i):=(Fz gG Vz).trans Wa;have Ed:=RMem.setGot hR7 hP5 hS5 HGM.out HGV.out Wb Oe;have Ha:=Hy.block gP hgP5 (by rw[hOP5];exact fun e=>by cases e);have Oi:=Hy.block gG Vz (by rw[Wa];exact fun e=>by cases e);have r0':w7.cell? ⟨gP,i*5,none⟩=some (.slice (some ⟨gG,0,none⟩) p.got.length cG):=by simp only[World.cell?] at r0 ⊢;rw[Ha];exact r0
   have r1':w7.cell? ⟨gP,i*5+1,none⟩=some (.int .i64 m):=by simp only[World.cell?] at r1 ⊢;rw[Ha];exact r1
   have hfG':w7.frozen? ⟨gG,m,none⟩=false:=by have h2:=hfG5 m;simp only[World.frozen?] at h2 ⊢;rw[Oi];exact h2
   have u0':w7.cell? ⟨gG,m,none⟩=some (sl g a5):=by simp only[World.cell?] at u0 ⊢;rw[Oi];exact u0
   have r0d:W5.cell? ⟨gP,i*5,none⟩=some (.slice (some ⟨gG,0,none⟩) p.got.length cG):=r0;have r1d:W5.cell? ⟨gP,i*5+1,none⟩=some (.int .i64 m):=r1;have u0d:W5.cell? ⟨gG,m,none⟩=some (sl g a5):=u0;obtain⟨W8,hW8⟩:=qE (w7.setCell ⟨gG,m,none⟩ (sl (g++x.b.take 8) s7));rw[<- hW8] at Ed;have Ld:Below D w W8:=by rw[hW8];exact (hBD5.trans (((Below.refl D W5).drew).trans (Hy.below Oh))).setCell (hR7.lo _ _ Wb).1 _
   have Ti:Calls Tryz.prog 170 #[.pointer (some ⟨r,0,none⟩),.int .i64 i] W8 fun e w'=>e=.returned (.int .i64 0)/\l6 G w' D r RES.1/\Below D w w':=by
    have Xw:g++x.b.take 8≠[]:=by intro h0;have:=congrArg List.length h0;rw[List.length_append,<- HTL.out] at this;simp at this;omega
    have hxg:=V3 HCK.out;have hck8:pchk ⟨x.b.drop 8,x.room,x.closed,x.shut⟩=0:=by
     refine J9 hxg.1 hxg.2.1 ?_ (fun e=>?_)
     . show ((x.b.drop 8).length:Int)<=plim x.room;have:=hxg.2.2.1;rw[List.length_drop];omega
     . show (x.b.drop 8).length=0;have:=hxg.2.2.2 e;rw[List.length_drop];omega
    have hS8:Shape ((d.setPipe q ⟨x.b.drop 8,x.room,x.closed,x.shut⟩ (ar,cr)).setProc i (SProc.gotSet p m (g++x.b.take 8)) (s.gotSet m s7)).M:=by
     refine HS.out.change HN.out (SProc.gotSet p m (g++x.b.take 8)) (d.M.pipes.set q ⟨x.b.drop 8,x.room,x.closed,x.shut⟩) d.M.sunk ?_ (by simp) (fun y hy=>?_)
     . exact⟨by unfold SProc.gotSet;simpa using HF.out.glen,HF.out.olen,HF.out.pos0,HF.out.pos1,HF.out.ovrd,HF.out.pos2⟩
     . rcases aO7 hy with rfl | hy
       . exact hck8
       . exact HS.out.pipe y hy
    have:=ck0 D r O7 ((d.setPipe q ⟨x.b.drop 8,x.room,x.closed,x.shut⟩ (ar,cr)).setProc i (SProc.gotSet p m (g++x.b.take 8)) (s.gotSet m s7)) i q m n (SProc.gotSet p m (g++x.b.take 8)) ⟨x.b.drop 8,x.room,x.closed,x.shut⟩ (g++x.b.take 8) W8 Ed hS8 HN.out (x8 HP.out) HM.out (x8 HGM.out) Xw HQ.out (x8 HX.out) Hv.out (by
     have:=aF3 (b:=x.b.take 8) HGM.out
     have h2:=HT.out
     have h3:=HTL.out
     show (p.got.set m (g++x.b.take 8)).flatten.length<=_
     omega) HSM.out HSK.out (fun W hW=>HE.out W (Ld.trans hW))
    refine this.mono ?_;rintro e w' ⟨h1,h2,h3⟩;refine⟨h1,?_,Ld.trans h3⟩;rw[Hz.out];have e1:K9 ((d.setPipe q ⟨x.b.drop 8,x.room,x.closed,x.shut⟩ (ar,cr)).setProc i (SProc.gotSet p m (g++x.b.take 8)) (s.gotSet m s7)).M i n q (SProc.gotSet p m (g++x.b.take 8))=K9 (d.M.setX q ⟨x.b.drop 8,x.room,x.closed,x.shut⟩) i n q (p.setGot (g++x.b.take 8)):=by
     have e2:p.setGot (g++x.b.take 8)=SProc.gotSet p m (g++x.b.take 8):=by unfold SProc.setGot SProc.gotSet;rw[HM.out,Int.toNat_natCast]
     rw[e2];exact bH9 (d.M.setX q ⟨x.b.drop 8,x.room,x.closed,x.shut⟩) i n q _ _
    rw[e1] at h2;exact h2
   have HCAME:Hid _:=Ti;have HRZ:Hid (RES.2=0):=(show _=_ by rw[Hz.out]);have Ak:Hid _:=Ao;have fX0:=gfX (q*4);have fX1:=gfX (q*4+1);have fX2:=gfX (q*4+2);have fX3:=gfX (q*4+3);rw[<- HGL.out] at r0d r0';obtain⟨a5a,a5c⟩:=a5;obtain⟨s7a,s7c⟩:=s7;have hgbl:=E8 hSa5.reads;unfold sl at y0 u0d u0' Ak hW8;simp only at y0 u0d u0' Ak hW8 hgbl;rw[<- HTL.out] at Ak;generalize ht4l:t4.1=ta4 at *;generalize ht4c:t4.2=tc4 at *;generalize g.length=BL at *;generalize (g++x.b.take 8).length=NL at *;rw[<- HXL.out] at y0;rw[<- HXV.out.1] at y1;rw[<- HXV.out.2.1] at y2;rw[<- HXV.out.2.2] at y3;unfold sl at hW5;simp only at hW5;rw[<- HDL.out,<- HXV.out.1,<- HXV.out.2.1,<- HXV.out.2.2] at hW5;have HW5:Hid _:=hW5;have HW8:Hid _:=hW8
   clear Ti Ed Ld hW5 hW8 hR7 Oe Hy Fz Ao Wb Oh k1 hBD5 hBD hrb5 Tf hR3 Ly Ii hR4 Hq Bc ht4 gfX gOX gX4 hDX hgX2 r0 r1 u0 hSa5 ha5 hfG5 Wa Vz hOP5 hgP5 hP5 hS5 Ha Oi e2 e3 e5 e6 Hz HR9 he x0' x1' x2' x3' ht4l ht4c;go_upto_region 13 with fail;rw[<- hW4];clear hW4;go_upto_region 14 with fail;rw[<- HW5.out];clear HW5 y0 y1 y2 y3 fX0 fX1 fX2 fX3 m0 m1 m2 m3;go_region_law (refine ah5 rfl (.tmp 93) (.tmp 94) 28 rfl (.slice a5a BL a5c) (.slice ab TL cb) (by simp[Act.eval]) (by simp[Act.eval]) Ak.out ?_)
   all_goals
    try rw[<- HW8.out]
    go_wp2_with fail
    refine Calls.mono HCAME.out ?_
    rintro e w9 ⟨rfl,hb9⟩
    have Am:Hid _:=hb9
    clear hb9
    go_wp2_with fail
    go_ret
    rw[HRZ.out]
    exact⟨rfl,Am.out⟩
end Go.Proofs.YtllgglolcgdehaaGreatDoor
namespace Go.Proofs.YtllgglolcgdehaaGreatDoor
open Go.RowKit Go.Gs Go.Maps
set_option linter.unusedVariables false
theorem aM6 {ns:List SNode} {k:Nat} {n:SNode} (h:ns[k]? = some n):j7 (ns.take (k+1))=j7 (ns.take k)++n.ins:=by rw[List.take_add_one,h];simp[j7]
def StAt (wr:World) (D r b:Nat) (M:SMach) (vN:Value) (L:List (Int × Int)) (k:Nat):Prop:=∃O d,RMem wr D r O (AuxT D d.vI d.vM d.M.ns L k) d/\d.M=M/\d.vN=vN/\d.vM=.map (some b)
theorem bm0 {L:List (Int × Int)} {j:Nat} {p:Int × Int} (hn:L.Nodup) (hp:L[j]? = some p):p∉L.take j:=by
 intro hm;obtain⟨i,hi⟩:=List.getElem?_of_mem hm;have hil:i<j:=by have:=(gSm hi).1;rw[List.length_take] at this;omega
 rw[List.getElem?_take_of_lt hil] at hi;obtain⟨h1,e1⟩:=gSm hi;obtain⟨h2,e2⟩:=gSm hp;have f1:=hn.idxOf_getElem i h1;have f2:=hn.idxOf_getElem j h2;rw[e1] at f1;rw[e2] at f2;omega
theorem bI0 {ns:List SNode} (g:RightG ns) {k j:Nat} {n:SNode} {p:Int × Int} (hn:ns[k]? = some n) (hp:n.ins[j]? = some p):p∉j7 (ns.take k)++n.ins.take j:=by
 have hj:j<n.ins.length:=(gSm hp).1;have h1:=al7 hn hj;rw[hp] at h1;have h2:=bm0 g.nodup h1;have e:(j7 ns).take (b7 ns k+j)=j7 (ns.take k)++n.ins.take j:=by
  have h3:j7 ns=j7 (ns.take k)++(n.ins++j7 (ns.drop (k+1))):=by
   have hkl:k<ns.length:=(gSm hn).1;have h4:ns=ns.take k++n::ns.drop (k+1):=by rw[<- Y0 hn,List.take_append_drop]
   conv=>lhs;rw[h4]
   rw[Z6];congr 1
  rw[h3];unfold b7;rw[List.take_append,List.take_of_length_le (by omega),Nat.add_sub_cancel_left,List.take_append_of_le_length (by omega)]
 rw[e] at h2;exact h2
theorem aB2 (an af ax ap aS : Option Addr) (cn cf cx cp cs : Nat) (M : SMach) (w : World) (h : RMach w an af ax ap aS cn cf cx cp cs M) (hsm : SmallC M) (hS : Shape M) (Ad : ∀ n ∈ M.ns, M4 n) :
    Calls Tryz.prog 56 #[machV an af ax ap aS M cn cf cx cp cs] w fun e w' => ∃ D r, e = .returned (.pointer (some ⟨r, 0, none⟩)) ∧ l6 NoG w' D r M ∧ w.heap.size ≤ D ∧ Bq w w' := by
 have HCL : Hid (∀ W, Bq w W → Calls Tryz.prog 59 #[machV an af ax ap aS M cn cf cx cp cs] W fun e w' => ∃ D vN vF vX vP sS X P O, e = .returned (.agg #[vN, vF, vX, vP, sl M.sunk sS]) ∧ (∀ vI vM, Raw w' D O ⟨M, vN, vF, vX, vP, vI, vM, sS, X, P⟩) ∧ W.heap.size ≤ D ∧ Bq W w') := (show ∀ W, _ from fun W hW => aS8 an af ax ap aS cn cf cx cp cs M W (h.below hW) hsm);have HS : Hid (Shape M) := hS;have Hv : Hid (∀ n ∈ M.ns, M4 n) := Ad;have h60 : M.ns.length ≤ 60 := hS.g.le60;unfold machV at HCL ⊢;obtain ⟨NN, hNN⟩ : ∃ z, z = M.ns.length := ⟨_, rfl⟩;obtain ⟨NF, hNF⟩ : ∃ z, z = M.fs.length := ⟨_, rfl⟩;obtain ⟨NX, hNX⟩ : ∃ z, z = M.pipes.length := ⟨_, rfl⟩;obtain ⟨NP, hNP⟩ : ∃ z, z = M.ps.length := ⟨_, rfl⟩;obtain ⟨NS, hNS⟩ : ∃ z, z = M.sunk.length := ⟨_, rfl⟩
 have HL : Hid (NN = M.ns.length ∧ NF = M.fs.length ∧ NX = M.pipes.length ∧ NP = M.ps.length ∧ NS = M.sunk.length) := ⟨hNN, hNF, hNX, hNP, hNS⟩;rw [← hNN, ← hNF, ← hNX, ← hNP, ← hNS] at HCL ⊢;rw [← hNN] at h60;clear h hsm hS Ad hNN hNF hNX hNP hNS;go_enter Tryz.func56, Tryz.ntmps56;go_wp2_with fail;refine Calls.mono (HCL.out _ boxE) ?_;rintro e w1 ⟨D, vN, vF, vX, vP, sS, X, P, O, rfl, Oj, hD, hb1⟩;have hRI := Oj (.slice none 0 0) (.map (some w1.heap.size));obtain ⟨w0, _, _, hrn, hrf⟩ := hRI.base;obtain ⟨aN, cN, hvN, Um, Je⟩ := hrn.shape;obtain ⟨aF, cF, hvF, _, _⟩ := hrf.shape;obtain ⟨⟨aX, cX, hvX, _, _⟩, _⟩ := j8 (hRI.part .pipes (by simp) (by simp)).1;obtain ⟨⟨aP, cP, hvP, _, _⟩, _⟩ := j8 (hRI.part .procs (by simp) (by simp)).1;simp only at hvN hvF hvX hvP Um;obtain ⟨O1, hR1⟩ := cp6 hRI rfl rfl;simp only at hR1;subst hvN hvF hvX hvP;rw [← HL.out.1] at Um
 have Yc : cN ≤ 9223372036854775807 := by unfold maxLen at Je; exact Je
 obtain ⟨W3, hW3⟩ : ∃ W, W = (w1.alloc (.map #[] 0)).alloc (.cells #[.slice aN M.ns.length cN, .slice aF M.fs.length cF, .slice aX M.pipes.length cX, .slice aP M.ps.length cP, sl M.sunk sS, .slice none 0 0, .map (some w1.heap.size)] 111) := ⟨_, rfl⟩;rw [← hW3] at hR1;have Bc := hR1.box.1;have HST : Hid (StAt W3 D (w1.heap.size + 1) w1.heap.size M (.slice aN M.ns.length cN) [] 0) := (show StAt _ _ _ _ _ _ _ _ from ⟨O1, ⟨M, .slice aN M.ns.length cN, .slice aF M.fs.length cF, .slice aX M.pipes.length cX, .slice aP M.ps.length cP, .slice none 0 0, .map (some w1.heap.size), sS, X, P⟩, hR1, rfl, rfl, rfl⟩);have hB3 : Bq w W3 := by rw [hW3];have h1 : Bq w w1 := boxE.trans (hb1.mono boxE.size);exact (h1.alloc h1.size _).alloc (by have := h1.size; simp; omega) _
 have HB3 : Hid (Bq w W3) := hB3
 have HD : Hid (w.heap.size ≤ D) := (show _ ≤ _ by have : (w.alloc (.cells #[.slice an NN cn, .slice af NF cf, .slice ax NX cx, .slice ap NP cp, .slice aS NS cs] 30)).heap.size = w.heap.size + 1 := by simp
                                                   omega)
 obtain ⟨b0, b1, b2, b3, b4, b5, b6⟩ := O5 Bc;unfold sl at hW3;simp only at hW3 b0;rw [← HL.out.1, ← HL.out.2.1, ← HL.out.2.2.1, ← HL.out.2.2.2.1, ← HL.out.2.2.2.2] at hW3;rw [← HL.out.1] at HST;rw [← HL.out.1] at b0;unfold sl;rw [← HL.out.1, ← HL.out.2.1, ← HL.out.2.2.1, ← HL.out.2.2.2.1, ← HL.out.2.2.2.2];clear Oj hRI hrn hrf hR1 Bc hD hb1 hB3 Je b1 b2 b3 b4 b5 b6 HCL;have hmm := @run_makeMap Tryz.prog;go_upto_region 2 with fail;rw [← hW3];clear hW3 hmm;go_wp2_with fail;clear b0;go_loopw [4, 21] (fun zp zi wr => ∃ k : Nat, k ≤ NN ∧ zp = .int .i64 (b7 M.ns k : Int) ∧ zi = .int .i64 k ∧ Hid (StAt wr D (w1.heap.size + 1) w1.heap.size M (.slice aN NN cN) (j7 (M.ns.take k)) k) ∧ Hid (Bq w wr)) (fun _ zi _ => NN - (intOf zi).toNat)
 case atStart => exact ⟨0, Nat.zero_le _, by rw [aC9]; rfl, rfl, HST, HB3⟩
 case round =>
  obtain ⟨k, hk, rfl, rfl, hst, Aa⟩ := hrel;clear HST HB3;by_cases hlt : k < NN
  . obtain ⟨O, d, hR, eM, eN, eMap⟩ := hst.out;clear hst;obtain ⟨n, hn⟩ : ∃ n, M.ns[k]? = some n := ⟨_, List.getElem?_eq_getElem (by have := HL.out.1; omega)⟩;obtain ⟨w0, q1, q2, q3, q4⟩ := hR.base;rw [eN, eM] at q3;obtain ⟨nb, noff, ai, ci, e1, hNA, hrp⟩ := q3.at hn;subst e1;subst q1;have Vb := hNA.below q2;obtain ⟨c0, c1, c2, c3, c4, c5, c6, c7⟩ := Vb;have HRP : Hid (∀ W, Below w0.heap.size wr W → E2 W (.slice ai n.ins.length ci) n.ins) := (show ∀ W, _ from fun W hW => hrp.below (q2.trans hW));have hil : n.ins.length ≤ 5 := (y9 (HS.out.g.node n (List.mem_of_getElem? hn))).1;have hfk : b7 M.ns k ≤ 300 := by
     have := aW0 HS.out;rw [HS.out.xlen] at this;have h2 : b7 M.ns k ≤ (j7 M.ns).length := by
      have := aQ5 (ns := M.ns) (i := k) (j := M.ns.length) (by have := HL.out.1; omega);have e : b7 M.ns M.ns.length = (j7 M.ns).length := by unfold b7; rw [List.take_length]
      omega
     omega
    have HN : Hid (M.ns[k]? = some n) := hn;have hsuc := ao4 hn;obtain ⟨_, _, _, _, _, b5, b6⟩ := O5 hR.box.1;rw [eMap] at b6;obtain ⟨hA1, _⟩ := hR.part .aux;obtain ⟨⟨aI, cI, hvI, _, _⟩, _⟩ := j8 hA1;obtain ⟨IL, hIL⟩ : ∃ z, z = n.ins.length := ⟨_, rfl⟩;have HIL : Hid (IL = n.ins.length) := hIL;rw [← hIL] at c7 HRP hil hsuc;obtain ⟨fx, hfx⟩ : ∃ z, z = (⟨n.file.toArray⟩ : ByteArray) := ⟨_, rfl⟩;obtain ⟨wx0, hwx⟩ : ∃ z, z = (⟨n.c.word.toArray⟩ : ByteArray) := ⟨_, rfl⟩;rw [← hfx] at c1;rw [← hwx] at c3;generalize n.kind = n0 at *;generalize n.c.kind = n2 at *;generalize n.c.n = n4 at *;generalize n.how = n5 at *;generalize n.wide = n6 at *;obtain ⟨FI, hFI⟩ : ∃ z, z = b7 M.ns k := ⟨_, rfl⟩;have HFI : Hid (FI = b7 M.ns k) := hFI;rw [← hFI] at hfk hsuc ⊢
    obtain ⟨W1, hW1⟩ : ∃ W, W = wr.alloc (.cells #[.int .i64 n0, .string fx, .int .i64 n2, .string wx0, .int .i64 n4, .int .i64 n5, .int .i64 n6, .slice ai IL ci] 73) := ⟨_, rfl⟩;obtain ⟨W2, hW2⟩ : ∃ W, W = W1.alloc (.cells #[.int .i64 FI] 3) := ⟨_, rfl⟩;have hb1 : Bq wr W1 := by rw [hW1]; exact boxE
    have hb2 : Bq wr W2 := by rw [hW2]; exact hb1.alloc hb1.size _
    have hs1 : W1.heap.size = wr.heap.size + 1 := by rw [hW1]; simp
    have hs2 : W2.heap.size = wr.heap.size + 2 := by rw [hW2]; simp; omega
    have hbx1 : W2.heap[wr.heap.size]? = some (.cells #[.int .i64 n0, .string fx, .int .i64 n2, .string wx0, .int .i64 n4, .int .i64 n5, .int .i64 n6, .slice ai IL ci] 73 (0, 0)) := by rw [hW2, heap_alloc_old _ _ (by omega), hW1];exact heap_alloc_new _ _
    have Ep : W2.heap[wr.heap.size + 1]? = some (.cells #[.int .i64 FI] 3 (0, 0)) := by rw [hW2, ← hs1];exact heap_alloc_new _ _
    have hR2 := RMem.below hR hb2;have hcI : W2.cell? ⟨wr.heap.size + 1, 0, none⟩ = some (.int .i64 (FI : Int)) := by rw [cell_of_row _ _ _ _ _ _ Ep]; rfl
    obtain ⟨v', w', O', Ao, ⟨a', c', hv'⟩, hbw, hsw, hrr, hkp, hR3⟩ := RMem.firstUp hR2 (by omega) (c := 1) (m := (FI : Int)) (by rw [eM, hFI]) hcI 45;subst hv';have hOn : ∀ g, wr.heap.size ≤ g → O g ≠ some .aux := fun g hg e => by have := (hR.lo g _ e).2; omega
    have Tj := (hkp wr.heap.size (by omega) (hOn _ (Nat.le_refl _))).trans hbx1;have hrb := hrr.trans hR2.box.1;have hfz5 : w'.frozen? ⟨w1.heap.size + 1, 5, none⟩ = false := frozen_of_row _ _ _ _ _ hrb;obtain ⟨_, _, _, _, _, d5, _⟩ := O5 hrb;obtain ⟨W3x, Ol⟩ : ∃ W, W = w'.setCell ⟨w1.heap.size + 1, 5, none⟩ (.slice a' (k + 1) c') := ⟨_, rfl⟩;rw [← Ol] at hR3;have hrne : w1.heap.size + 1 < wr.heap.size := (hR.lo _ _ hR.box.2).2;have Is : W3x.heap[wr.heap.size]? = some (.cells #[.int .i64 n0, .string fx, .int .i64 n2, .string wx0, .int .i64 n4, .int .i64 n5, .int .i64 n6, .slice ai IL ci] 73 (0, 0)) := by rw [Ol];exact (Below.heap_setCell _ _ _ _ (by show wr.heap.size ≠ w1.heap.size + 1; omega)).trans Tj
    have hDr : w0.heap.size ≤ w1.heap.size + 1 := (hR.lo _ _ hR.box.2).1;have Wc : Below w0.heap.size wr W3x := by rw [Ol];exact ((hb2.mono hR.le).trans hbw).setCell hDr _
    have HB3x : Hid (Below w0.heap.size wr W3x) := Wc;have HST3 : Hid (StAt W3x w0.heap.size (w1.heap.size + 1) w1.heap.size M (.slice (some ⟨nb, noff, none⟩) NN cN) (j7 (M.ns.take k)) (k + 1)) := (show StAt _ _ _ _ _ _ _ _ from ⟨O', d.withI (.slice a' (k + 1) c'), hR3, eM, eN, eMap⟩);obtain ⟨_, _, _, _, _, _, _, i7⟩ := Y4 Is;have Ak : Hid _ := Ao;rw [hvI] at Ak b5 d5;have HB2w : Hid (Bq w W3x) := Aa.out.trans (Wc.mono HD.out);have HNB : Hid (M.ns.length = NN) := HL.out.1.symm;rw [hW2, hW1] at Ak;have fb5 := fun o => ((boxE (w := wr) (o := o)).cell (World.block_lt_of_cell? wr _ b5)).trans b5;clear hR hR2 hR3 hrp q2 q3 q4 hNA hn eM eN hA1 hvI hb1 hb2 hbx1 Ep hcI hbw hkp hOn Tj hrr hrb Is Wc Ao hIL hfx hwx hFI hs1 hs2 Aa eMap b6 hDr hsw hW1 hW2
    go_upto_region 7 with (at_builtin; refine ab4 _ rfl (.tmp 29) (.tmp 31) 45 rfl _ _ rfl rfl Ak.out ?_);rw [← Ol];clear fb5 Ol Ak c0 c1 c2 c3 c4 c5 c6 c7 b5 d5 hfz5;go_wp2_with fail;clear i7;go_loopw [4, 38] (fun zp zj wx => ∃ j : Nat, j ≤ IL ∧ zp = .int .i64 ((FI : Int) + (j : Int)) ∧ zj = .int .i64 j ∧ Hid (StAt wx w0.heap.size (w1.heap.size + 1) w1.heap.size M (.slice (some ⟨nb, noff, none⟩) NN cN) (j7 (M.ns.take k) ++ n.ins.take j) (k + 1)) ∧ Hid (Below w0.heap.size wr wx) ∧ Hid (Bq w wx)) (fun _ zj _ => IL - (intOf zj).toNat)
    case atStart => exact ⟨0, Nat.zero_le _, by simp, rfl, (show StAt _ _ _ _ _ _ _ _ by simpa using HST3.out), HB3x, HB2w⟩
    case round =>
     obtain ⟨j, hj, rfl, rfl, hst, hbx, Tm⟩ := hrel;clear HST3 HB3x HB2w;by_cases hltj : j < IL
     . obtain ⟨p, hp⟩ : ∃ p, n.ins[j]? = some p := ⟨_, List.getElem?_eq_getElem (by have := HIL.out; omega)⟩;obtain ⟨O, d, hR, eM, eN, eMap⟩ := hst.out;have Jl := HRP.out _ hbx.out;obtain ⟨pb, poff, e2, p0, p1⟩ := Jl.at hp;subst e2;have hpl := L2 Jl;obtain ⟨_, _, _, _, _, _, b6⟩ := O5 hR.box.1;rw [eMap] at b6;have Nr : WfP p := (Hv.out n (List.mem_of_getElem? HN.out)).2.2 p (List.mem_of_getElem? hp);have hnot : p ∉ j7 (M.ns.take k) ++ n.ins.take j := bI0 HS.out.g HN.out hp;have hLl : (j7 (M.ns.take k) ++ n.ins.take j).length = FI + j := by rw [List.length_append, List.length_take, HFI.out];unfold b7;have := HIL.out;omega
       have htk : j7 (M.ns.take k) ++ n.ins.take j ++ [p] = j7 (M.ns.take k) ++ n.ins.take (j + 1) := by rw [List.append_assoc];congr 1;rw [List.take_add_one, hp];rfl
       have hUP : ∀ W, Bq wr W → ∃ w', (Instr.mapUpdate 109 (.map (some w1.heap.size)) (.agg #[.int .i64 p.1, .int .i64 p.2]) (.int .i64 ((FI : Int) + (j : Int)))).run Tryz.prog W = .ok () w' ∧ Hid (StAt w' w0.heap.size (w1.heap.size + 1) w1.heap.size M (.slice (some ⟨nb, noff, none⟩) NN cN) (j7 (M.ns.take k) ++ n.ins.take (j + 1)) (k + 1)) ∧ Hid (Below w0.heap.size wr w') := by intro W hW;obtain ⟨w', h1, h2, h3, h4⟩ := RMem.intoUp (RMem.below hR hW) eMap (by rw [hLl]; omega) Nr hnot (m := ((FI : Int) + (j : Int))) (by rw [hLl]; omega);rw [htk] at h4;exact ⟨w', h1, (show StAt _ _ _ _ _ _ _ _ from ⟨O, d, h4, eM, eN, eMap⟩), (hW.mono hR.le).trans h2⟩
       have HDR : Hid (w0.heap.size ≤ wr.heap.size) := hR.le;obtain ⟨q1, q2⟩ := p;simp only at p0 p1 hUP;have hb0 : Bq wr (wr.alloc (.cells #[.int .i64 q1, .int .i64 q2] 79)) := boxE;obtain ⟨y1, u1', s1, t1⟩ := hUP _ hb0.drew;have fb6 := fun o => ((boxE (w := wr) (o := o)).cell (World.block_lt_of_cell? wr _ b6)).trans b6;clear hst hR eM eN eMap Jl hp Nr hnot hLl htk hUP hb0;go_wp2_with fail;go_region
       have hwr : IntKind.i64.wrap ((FI : Int) + (j : Int) + 1) = (FI : Int) + ((j + 1 : Nat) : Int) := by rw [IntKind.wrap_i64]; omega
       have HB4 : Hid (Bq w y1) := Tm.out.trans (t1.out.mono HD.out);clear u1' fb6 b6 p0 p1 hpl;all_goals go_wp2_with fail
       all_goals go_roundw
       case rel => exact ⟨j + 1, by omega, by first | rfl | (congr 1; omega) | go_num, by go_num, s1, (hbx.out.trans t1.out), HB4⟩
       case measure => simp [intOf]; omega
     . have e5 : j = IL := by omega
       have Jh : Hid (StAt wr w0.heap.size (w1.heap.size + 1) w1.heap.size M (.slice (some ⟨nb, noff, none⟩) NN cN) (j7 (M.ns.take (k + 1))) (k + 1)) := (show StAt _ _ _ _ _ _ _ _ by
         have h1 := hst.out
         rw [e5, HIL.out, List.take_length] at h1
         rw [aM6 HN.out]
         exact h1)
       have hfj : (FI : Int) + (j : Int) = ((b7 M.ns (k + 1) : Nat) : Int) := by omega
       clear hst;go_wp2_with fail;go_roundw
       case rel => exact ⟨k + 1, by omega, by rw [hfj], by go_num, Jh, Tm⟩
       case measure => simp [intOf]; omega
  . have e6 : k = NN := by omega
    have Am : Hid (l6 NoG wr D (w1.heap.size + 1) M) := (show l6 NoG _ _ _ _ by
      obtain ⟨O, d, hR, eM, eN, eMap⟩ := hst.out
      rw [e6, HL.out.1, List.take_length] at hR
      refine ⟨O, d, ?_, eM⟩
      have h2 := hR.part .aux
      rw [← eM] at h2
      have hA : AuxF D d.vI d.vM d.M.ns wr O := cf2 h2
      exact hR.auxTo (bh1 D d.vI d.vM d.M.ns ct9) ⟨hA, trivial⟩)
    clear hst;go_wp2_with fail;go_ret;exact ⟨D, w1.heap.size + 1, rfl, Am.out, HD.out, Aa.out⟩
end Go.Proofs.YtllgglolcgdehaaGreatDoor
