/- What the developers' command of a draft does, and more. -/
import Derived.Test.YtllgglolcgdehaaGreatDoorSAb
import Derived.Test.YtllgglolcgdehaaGreatDoorSa03
set_option linter.all false
set_option maxRecDepth 100000
set_option maxHeartbeats 16000000
namespace Go.Proofs.YtllgglolcgdehaaGreatDoor
open Go.RowKit Go.Gs Tryz
theorem DSt.boxed{w W0:World}{B D:Nat}{go:Option Nat}{d:PD}(h:DSt w B D go noX d)(hb:Bq w W0)(hs:w.heap.size<W0.heap.size):DSt W0 B D go (fun q=>q=w.heap.size) d:=by obtain⟨v,rows,ao,co,h1,h2,h3,h4,h5,h6,h7⟩:=h;refine⟨v,rows,ao,co,h1,(hb.block _ (I9 h2)).trans h2,h3.keep (Kept.of_below hb) (fun g hg=>hb.block g (h3.base g hg).2) (fun k hk e=>by omega),h4,h5.keep (Kept.of_below hb) (Nxt.refl _ _) (fun k hk e=>by omega),h6,fun k hk=>by omega⟩
theorem DSt.own{w:World}{B D:Nat}{go:Option Nat}{X:Nat->Prop}{d:PD}(h:DSt w B D go X d):(∀g,go=some g->B<=g/\g<w.heap.size)/\D<w.heap.size/\B<=D:=by obtain⟨v,rows,ao,co,rfl,h2,h3,h4,h5,h6,h7⟩:=h;exact⟨h3.base,I9 h2,h6⟩
theorem DSt.setX{w:World}{B D:Nat}{go:Option Nat}{X:Nat->Prop}{d:PD}(h:DSt w B D go X d){a:Addr}(u:Value)(hx:X a.block)(hD:a.block≠D)(hg:go≠some a.block):DSt (w.setCell a u) B D go X d:=by obtain⟨v,rows,ao,co,rfl,h2,h3,h4,h5,h6,h7⟩:=h;have hk:Kept D v.ownBlock X w (w.setCell a u):=⟨rfl,rfl,rfl,by simp,fun k _ hn=>qJ _ _ _ _ (fun e=>hn (.inr (.inr (by rw[e];exact hx))))⟩;exact⟨v,rows,ao,co,rfl,(qJ _ _ _ _ (fun e=>hD e.symm)).trans h2,h3.keep hk (fun g hg'=>qJ _ _ _ _ (fun e=>hg (by rw[hg',e]))) (NxtX.refl _ _),h4,h5.keep hk (Nxt.refl _ _) (NxtX.refl _ _),h6,fun k hk=>by have:=h7 k hk;simpa using this⟩
theorem bN0{w W0 w8:World}{B D:Nat}{go:Option Nat}{d:PD}(hb:Bq w W0)(hs:w.heap.size<W0.heap.size)(h:D7 W0 w8 B D go (fun q=>q=w.heap.size) d)(hD:D<w.heap.size)(hg:∀g,go=some g->g<w.heap.size)(u0 u1 u2:Value):
 D7 w (((w8.setCell ⟨w.heap.size,0,none⟩ u0).setCell ⟨w.heap.size,1,none⟩ u1).setCell ⟨w.heap.size,2,none⟩ u2) B D go (fun q=>q=w.heap.size) d:=by
 obtain⟨g',h1,h2,h3⟩:=h;have hne:g'≠some w.heap.size:=by
  rcases h3 with e | ⟨g,e,h4⟩
  . rw[e];intro e2;have:=hg _ e2;omega
  . rw[e];intro e2;injection e2 with e2;omega
 refine⟨g',((h1.setX u0 rfl (by simp;omega) hne).setX u1 rfl (by simp;omega) hne).setX u2 rfl (by simp;omega) hne,?_,?_⟩
 . have k1:Kept D go noX w w8:=(Kept.of_below hb).trans h2 (Nxt.refl _ _) (NxtX.refl _ _);refine⟨k1.os,k1.tape,k1.output,by simpa using k1.size,fun i hi hn=>?_⟩;rw[qJ _ _ _ _ (by simp;omega),qJ _ _ _ _ (by simp;omega),qJ _ _ _ _ (by simp;omega)];exact k1.block i hi hn
 . rcases h3 with e | ⟨g,e,h4⟩
   . exact .inl e
   . exact .inr ⟨g,e,by omega⟩
theorem D7.less{w w':World}{B D:Nat}{go:Option Nat}{X:Nat->Prop}{d:PD}(h:D7 w w' B D go X d):D7 w w' B D go noX d:=by obtain⟨g',h1,h2,h3⟩:=h;exact⟨g',h1.less (fun k _ e=>e.elim) (fun k e=>e.elim),h2,h3⟩
theorem ay4{w:World}{b:Nat}{a c e:Value}{t:TypeId}(h:w.heap[b]? = some (.cells #[a,c,e] t (0,0))):w.cell? ⟨b,0,none⟩=some a/\w.cell? ⟨b,1,none⟩=some c/\w.cell? ⟨b,2,none⟩=some e:=⟨qR h rfl,qR h rfl,qR h rfl⟩
theorem D7.box{w W0 w':World}{B D:Nat}{go:Option Nat}{X:Nat->Prop}{d:PD}{o:Obj}(h:D7 W0 w' B D go X d)(hb:W0.heap[w.heap.size]? = some o)(hD:D<w.heap.size)(hg:∀g,go=some g->g<w.heap.size):w'.heap[w.heap.size]? = some o:=by obtain⟨g',h1,h2,h3⟩:=h;rw[h2.block _ (I9 hb) (fun e=>by rcases e with e | e | e;omega;(have:=hg _ e;omega);exact e)];exact hb
theorem bA6(c:Cmd)(hc:chk c=0)(hcw:c.word.length<=9223372036854775807)(wn:Nat)(hw:1<=wn/\wn<=5)(B D:Nat)(go:Option Nat)(d:PD)(w:World)(h:DSt w B D go noX d)(hl:d.1.length<=48)(hd:d.2.length=1\/d.2.length=wn)(hBw:B<=w.heap.size):
 Calls prog 92 #[.pointer (some ⟨D,0,none⟩),c.v,.int .i64 wn] w fun e w'=>e=.returned (.int .i64 0)/\D7 w w' B D go noX (pCmd wn d c):=by
 obtain⟨hgo,hDl,hBD⟩:=h.own;obtain⟨hs1,hs2,hs3⟩:=av4 hw hd;have HE:Hid _:=fun(W:World)=>bI1 c W;have HF:Hid _:=fun(W:World)=>cp4 c W hcw;rw[hc]at HF;simp only[if_true]at HF;have HJ4:Hid _:=fun(W:World)(g:Option Nat)(dd:PD)(hS:DSt W B D g (fun q=>q=w.heap.size) dd)(hll:dd.1.length<=60)(hBW:B<=W.heap.size)=>be9 4 c B D g _ dd W hS hll hBW;have HJ0:Hid _:=fun(how:Int)(W:World)(g:Option Nat)(dd:PD)(hS:DSt W B D g (fun q=>q=w.heap.size) dd)(hll:dd.1.length<=60)(hBW:B<=W.heap.size)=>be9 how noC B D g _ dd W hS hll hBW;have HPJ:=qH (show ∀d2,aL2 wn c d2=if wn=1\/N9 c.kind=true then d2 else I3 (C9 c.kind) (if C9 c.kind=4 then c else noC) d2 from fun d2=>rfl);have HPC:=qH (show pCmd wn d c=aL2 wn c (J9 c (M6 wn d)) from rfl)
 have HAD:=qH (show ∀p X2,C6 (V6 c p) (some ⟨X2,0,none⟩) 1 1=.agg #[.int .i64 3,.string ⟨#[]⟩,.int .i64 c.kind,.string ⟨c.word.toArray⟩,.int .i64 c.n,.int .i64 0,.int .i64 0,.slice (some ⟨X2,0,none⟩) 1 1] from fun p X2=>rfl);unfold Cmd.v at HE HF HJ4 HJ0 ⊢;unfold noC at HJ0;simp only at HJ0;change Hid (∀(how:Int)(W:World)(g:Option Nat)(dd:PD),DSt W B D g (fun q=>q=w.heap.size) dd->dd.1.length<=60->B<=W.heap.size->Calls prog 141 #[.pointer (some ⟨D,0,none⟩),.int .i64 how,.agg #[.int .i64 0,.string ⟨#[]⟩,.int .i64 0]] W (fun e w'=>e=.returned (.tuple #[])/\D7 W w' B D g (fun q=>q=w.heap.size) (I3 how noC dd))) at HJ0;have hHW:∃W0,W0=w.alloc (.cells #[.int .i64 c.kind,.string ⟨c.word.toArray⟩,.int .i64 c.n] 70):=⟨_,rfl⟩;obtain⟨W0,hW0⟩:=hHW;have hb0:Bq w W0:=by rw[hW0];exact i8
 have hs0:w.heap.size<W0.heap.size:=by rw[hW0];simp
 have HBX:=qH (show W0.heap[w.heap.size]? = some (.cells #[.int .i64 c.kind,.string ⟨c.word.toArray⟩,.int .i64 c.n] 70 (0,0)) by rw[hW0];exact qN w _);have HB0:=qH hb0;have hS0:DSt W0 B D go (fun q=>q=w.heap.size) d:=h.boxed hb0 hs0;have HS0:=qH hS0;obtain⟨v,rows,ao,co,hgv,hD,hN,Az,hP,_,hX⟩:=hS0;have Ji:rows.length<=60:=by
  have:rows.length=d.1.length:=by rw[<- Az];simp
  omega
 have Dl:Hid _:=fun(hN1:d.2.length=1)=>aM9 (splitN wn d.2) ao co D B _ v (.slice ao d.2.length co) rows W0 wn (by simp[nouts,splitN]) hw.2 hD hN hP Ji hBD (qw hBw hb0.size);unfold C6 splitN at Dl;simp only at Dl
 have Da:Hid _:=fun(w':World)(v':Value)(b:Nat)(q1:w'.heap[D]? = some (.cells #[v',.slice ao d.2.length co] 144 (0,0)))(q2:NO w' B D (fun q=>q=w.heap.size) 73 v' (rows++[(splitN wn d.2,ao,co)]))(q3:W0.heap.size<=b)(q4:v'.ownBlock≠some b) q5 (q6:Kept D v.ownBlock noX W0 w') (q7:Nxt W0 v.ownBlock v'.ownBlock)=>
  bn6 (k:=wn) hX (vo:=.slice ao d.2.length co) (v:=v) hBD (xT hDl hb0.size) hw.2 q1 q2 q3 q4 q5 q6 q7
 have hD1:W0.cell? ⟨D,1,none⟩=some (.slice ao d.2.length co):=qR hD rfl;have HCF:Hid _:=fun(W:World)(v' vo:Value)(q:W.heap[D]? = some (.cells #[v',vo] 144 (0,0)))=>(show W.cell? ⟨D,1,none⟩=some vo/\W.frozen? ⟨D,1,none⟩=false from ⟨qR q rfl,xK _ _ _ _ _ q⟩);have Wu:d.2.length=1->wn≠1->(rows.map (·.1)++[(splitN wn d.2,ao,co).1],l5 rows.length wn)=M6 wn d:=fun a b=>by unfold M6;rw[qF ⟨a,b⟩,Az];simp only[<- Az,qM]
 have Lc:Hid _:=Wu;have Gm:=qH (show ¬(d.2.length=1/\wn≠1)->M6 wn d=d from fun a=>by unfold M6;rw[qA a]);have hm:=Y3 hP.1;obtain⟨d1,hd1⟩:=qE (M6 wn d);rw[<- hd1]at Lc Gm hs1 hs2 hs3 HPC;obtain⟨N,hNN⟩:=qE d.2.length;rw[<- hNN]at hd Dl hD1 Lc Gm hm Da;generalize C9 c.kind=how at *;generalize N9 c.kind=ie at *;generalize (⟨c.word.toArray⟩:ByteArray)=wx at *;generalize c.kind=ck at *;generalize c.n=cn at *;clear h hD hN Az hP Wu hd1 hNN hX Ji;subst hW0;have HGV:=qH hgv;clear hgv;by_cases Ew:N=1/\wn≠1;obtain⟨rfl,hne⟩:=Ew;have Wv:((wn:Int)==1)=false:=by simp;omega
 have Ql:Hid _:=Dl.out rfl;rw[Lc.out rfl hne]at Da;clear Dl Lc Gm;go_enter Tryz.func92,Tryz.ntmps92;go_wp2_with fail;refine qD Ql.out ?_;rintro e w4⟨v4,b4,rfl,q1,q2,q3,q4,q5,q6,q7⟩;obtain⟨d1',f1'⟩:=HCF.out _ _ _ q1;have hst:=Da.out _ _ _ q1 q2 q3 q4 q5 q6 q7;rw[<- HGV.out]at hst;have HST:Hid _:=hst;clear q1 q2 q3 q4 q5 q6 q7 hst Ql Da;go_upto_region 3 with fail;clear d1' f1';obtain⟨wc,hwc⟩:=qE (w4.setCell ⟨D,1,none⟩ (.slice (some ⟨b4,0,none⟩) wn wn));rw[<- hwc];have HSC:Hid (D7 (w.alloc (.cells #[.int .i64 ck,.string wx,.int .i64 cn] 70)) wc B D go (fun q=>q=w.heap.size) d1):=by rw[hwc];exact HST.out
 clear hwc HST;rotate_left
 have hst:D7 (w.alloc (.cells #[.int .i64 ck,.string wx,.int .i64 cn] 70)) (w.alloc (.cells #[.int .i64 ck,.string wx,.int .i64 cn] 70)) B D go (fun q=>q=w.heap.size) d1:=by rw[Gm.out Ew];exact⟨_,HS0.out,Kept.refl _ _ _ _,Nxt.refl _ _⟩
 have HSC:Hid _:=hst;clear Dl Lc Gm Da hst;by_cases hN1:N=1;have hw1:wn=1:=by by_cases e:wn=1;exact e;exact absurd ⟨hN1,e⟩ Ew
 have HW1:=qH hw1;have hw1b:((wn:Int)==1)=true:=by simp[hw1]
 clear hw1;subst hN1;clear Ew;go_enter Tryz.func92,Tryz.ntmps92;go_upto_region 3 with fail;obtain⟨wc,hwc⟩:=qE (w.alloc (.cells #[.int .i64 ck,.string wx,.int .i64 cn] 70));rw[<- hwc];have HSC':Hid (D7 (w.alloc (.cells #[.int .i64 ck,.string wx,.int .i64 cn] 70)) wc B D go (fun q=>q=w.heap.size) d1):=by rw[hwc];exact HSC.out
 clear hwc HSC;rename _=>HSC
 rotate_left
 have hN1':((N:Int)==1)=false:=by simp;omega
 have hne:wn≠1:=by omega
 have Wv:((wn:Int)==1)=false:=by simp;omega
 clear Ew;go_enter Tryz.func92,Tryz.ntmps92;go_upto_region 3 with fail;obtain⟨wc,hwc⟩:=qE (w.alloc (.cells #[.int .i64 ck,.string wx,.int .i64 cn] 70));rw[<- hwc];have HSC':Hid (D7 (w.alloc (.cells #[.int .i64 ck,.string wx,.int .i64 cn] 70)) wc B D go (fun q=>q=w.heap.size) d1):=by rw[hwc];exact HSC.out
 clear hwc HSC;rename _=>HSC
 rotate_left
 all_goals
  have HBXc:Hid _:=HSC.out.box HBX.out hDl (fun g hg=>(hgo g hg).2);obtain⟨go1,⟨v1,rows1,ao1,co1,e1,hD,hN,Az,hP,_,hX⟩,hKc,hNc⟩:=id HSC.out;have HPO:Hid (POff wc D go1 (fun q=>q=w.heap.size) ao1 co1 d1.2):=by rw[e1];exact hP
  have HLS:Hid _:=LRel.start c e1 hD hN Az;obtain⟨c1,f1⟩:=HCF.out _ _ _ hD;have hDc:=I9 hD;have HKc:Hid _:=hKc;have HNc:Hid _:=hNc;have HXl:=qH hX;have hg1:go1≠some w.heap.size:=by
   rcases hNc with e | ⟨g,e,hg⟩
   . rw[e];intro e2;have:=(hgo _ e2).2;omega
   . rw[e];intro e2;injection e2 with e2;simp at hg;omega
  have hpm:=Y3 hP.1;rw[hs1]at c1 hpm;obtain⟨i1,hi',hy0,hy1,hy2⟩:=info_parts aD0;have hBc:B<=wc.heap.size:=by omega
  clear hD hN Az hP hX hKc hNc e1;go_wp2_with fail;go_loopw [38,7] (fun i dv wr=>∃k:Nat,k<=wn/\i=.int .i64 k/\∃v rows,Hid (LRel wc wr B D go1 (fun q=>q=w.heap.size) d1.1 d1.2 ao1 co1 c k dv v rows)) (fun i _ _=>wn-(intOf i).toNat)
  case atStart=>exact⟨0,qP _,rfl,_,_,HLS.out⟩
  case round=>
   obtain⟨k,hk,rfl,vk,rk,HL⟩:=hrel;have HLK:Hid _:=HL.out.2.2.2.2.2.1;have Ww:rk.length=d1.1.length+k:=by have h1:=HL.out.2.2.1;have h2:=(bZ7 (c:=c) (ns:=d1.1) (op:=d1.2) (k:=k) (by omega)).1;rw[<- h1]at h2;simpa using h2
   have HRK:Hid _:=Ww;have Wx:rk.length<=60:=by omega
   clear Ww;have Wy:wc.heap.size<=wr.heap.size:=HLK.out.size;have hb0r:w.heap.size<wr.heap.size:=by have:=HXl.out _ rfl;omega
   have Ou:=HLK.out.block w.heap.size (HXl.out _ rfl) (fun e=>by rcases e with e | e | e;omega;exact hg1 e;exact e);rw[HBXc.out]at Ou;obtain⟨ad,cd,hdv,hdc1,hdc2⟩:=ak2 HL.out.2.2.2.1;subst hdv;by_cases hlt:k<wn
   .
    obtain⟨p,hpk⟩:∃p,d1.2[k]? = some p:=⟨_,gEl (by omega)⟩;obtain⟨pb,po,hao,p1,p2⟩:=((HL.out.ports HPO.out).1).at hpk;subst hao;obtain⟨x0,x1,x2⟩:=ay4 Ou;have keep:∀{o:Obj}{q:Addr}{v:Value},wr.cell? q=some v->(wr.alloc o).cell? q=some v:=fun h=>qC i8 h;have y0:=keep (o:=.cells #[.int .i64 p.1,.int .i64 p.2] 79) x0;have y1:=keep (o:=.cells #[.int .i64 p.1,.int .i64 p.2] 79) x1;have y2:=keep (o:=.cells #[.int .i64 p.1,.int .i64 p.2] 79) x2;have Ov:Hid _:=fun(W2:World)(X2:Nat)(hb:Bq wr W2)(hc:W2.heap[X2]? = some (.cells #[.int .i64 p.1,.int .i64 p.2] 79 (0,0)))(hx:wr.heap.size<=X2)=>HL.out.add p (fun q hq=>HXl.out q hq) hb hc hx Wx hBD (by omega);simp only[HAD.out]at Ov
    have HST:Hid _:=fun(w4 w5:World)(v4 dv5:Value)(q1:w4.heap[D]? = some (.cells #[v4,.slice (some ⟨pb,po,none⟩) d1.2.length co1] 144 (0,0))) q2 q6 q7 ow gr bl=>HL.out.step hpk hDc (fun q hq=>HXl.out q hq) (W2:=(wr.alloc (.cells #[.int .i64 p.1,.int .i64 p.2] 79)).alloc (.cells #[.int .i64 p.1,.int .i64 p.2] 79)) (w4:=w4) (w5:=w5) (v4:=v4) (dv5:=dv5) (r:=(V6 c p,some ⟨wr.heap.size+1,0,none⟩,1)) (i8.trans (i8.mono (by simp))) rfl q1 q2 q6 q7 ow gr bl;have HO4:Hid _:=fun(w4:World) q6=>HL.out.own4 (W2:=(wr.alloc (.cells #[.int .i64 p.1,.int .i64 p.2] 79)).alloc (.cells #[.int .i64 p.1,.int .i64 p.2] 79)) (w4:=w4) (i8.trans (i8.mono (by simp))) q6 hDc;obtain⟨pa,pc⟩:=p;simp only at p1 p2 y0 y1 y2 Ov HST HO4;clear hpk Ou x0 x1 x2 keep;go_wp2_with fail
    refine qD (Ov.out _ (wr.heap.size+1) (i8.trans (i8.mono (by simp))) (by rw[show wr.heap.size+1=(wr.alloc (.cells #[.int .i64 pa,.int .i64 pc] 79)).heap.size by simp];exact qN _ _) (by omega)) ?_;rintro e w4⟨v4,b4,rfl,q1,q2,q3,q4,q5,q6,q7⟩;have HO5:Hid _:=HO4.out _ q6;have Ik:Hid _:=fun(w5:World)(dv5:Value) ow gr bl=>HST.out w4 w5 v4 dv5 q1 q2 q6 q7 ow gr bl;have HQ5:Hid _:=aN2 q5;have hs4:wr.heap.size<=w4.heap.size:=by have:=q6.size;simp at this;omega
    clear q1 q2 q4 q5 q6 q7 HST HO4 Ov;go_wp2_with (at_builtin;refine wpList_append_own_at _ rfl (.tmp 42) (.tmp 48) 71 rfl B 79 i1 _ 2 16 underlying71 hi' hy0 hy1 hy2 rfl (by omega) (.slice ad k cd) k _ rfl HO5.out ⟨b4,0,none⟩ 1 1 (A4 (l5 rk.length 1)) rfl (by rw[as8,L2]) HQ5.out (aN3 _) (by unfold maxLen;omega) (by omega) (by omega) ?_)
    intro v5 w5 ow5 gr5 nn5 bl5;have HL5:Hid _:=Ik.out _ _ ow5 gr5 bl5;clear Ik HQ5 HO5 ow5 gr5 nn5 bl5 y0 y1 y2 p1 p2;go_wp2_with fail;go_roundw
    case rel=>exact⟨k+1,by omega,by go_num,_,_,HL5.out⟩
    case measure=>simp[intOf];omega
   .
    have hkn:wn=k:=by omega
    subst hkn;have hdn:=HL.out.done (by omega) hDc hBD (fun q hq=>HXl.out q hq);obtain⟨g2,k1,k2,k3⟩:=hdn;have HDT:Hid (D7 (w.alloc (.cells #[.int .i64 ck,.string wx,.int .i64 cn] 70)) (wr.setCell ⟨D,1,none⟩ (.slice ad wn cd)) B D go (fun q=>q=w.heap.size) (J9 c d1)):=⟨g2,k1,Kept.trans HKc.out k2 HNc.out (NxtX.refl _ _),Nxt.trans HNc.out k3 HKc.out.size⟩;obtain⟨c6,f6⟩:=HCF.out _ _ _ HL.out.1;have hwl:(J9 c d1).1.length<=60:=by have:=ah3 c d1.2 (d1.1,[]);unfold J9;simp only[qy]at this;omega
    have HWL:Hid _:=hwl;clear k1 k2 k3 HL HLK Ou hwl;go_upto_region 10 with fail;obtain⟨w6,hw6⟩:=qE (wr.setCell ⟨D,1,none⟩ (.slice ad wn cd));rw[<- hw6];rw[<- hw6]at HDT;have Wz:=D7.box HDT.out HBX.out hDl (fun g hg=>(hgo g hg).2);obtain⟨x0,x1,x2⟩:=ay4 Wz;clear hw6 c6 f6;go_wp2_with fail
    try
     go_ret;refine⟨rfl,?_⟩;rw[HPC.out,HPJ.out,qF (Or.inl HW1.out)];exact D7.less (D7.pre HDT.out HB0.out)
    all_goals
     refine qD (HE.out _) ?_;rintro e w7⟨rfl,hb7⟩;have HD7:Hid (D7 (w.alloc (.cells #[.int .i64 ck,.string wx,.int .i64 cn] 70)) w7 B D go (fun q=>q=w.heap.size) (J9 c d1)):=D7.post HDT.out hb7;have Xa:=D7.box HD7.out HBX.out hDl (fun g hg=>(hgo g hg).2);clear hb7 x0 x1 x2 HE Wz
     cases ie with
     | true=>
      go_wp2_with fail
      go_ret
      refine⟨rfl,?_⟩
      rw[HPC.out,HPJ.out,qF (Or.inr trivial)]
      exact D7.less (D7.pre HD7.out HB0.out)
     | false=>
      obtain⟨x0,x1,x2⟩:=ay4 Xa
      go_wp2_with fail
      refine qD (HF.out _) ?_
      rintro e w8⟨rfl,hb8⟩
      have HD8:Hid (D7 (w.alloc (.cells #[.int .i64 ck,.string wx,.int .i64 cn] 70)) w8 B D go (fun q=>q=w.heap.size) (J9 c d1)):=D7.post HD7.out hb8
      have Il:=D7.box HD8.out HBX.out hDl (fun g hg=>(hgo g hg).2)
      clear hb8 x0 x1 x2 Xa HD7 HF
      obtain⟨x0,x1,x2⟩:=ay4 Il
      have z0:w8.frozen? ⟨w.heap.size,0,none⟩=false:=xK _ _ _ _ _ Il
      have z1:w8.frozen? ⟨w.heap.size,1,none⟩=false:=xK _ _ _ _ _ Il
      have z2:w8.frozen? ⟨w.heap.size,2,none⟩=false:=xK _ _ _ _ _ Il
      by_cases h4:how=4
      .
       subst h4
       obtain⟨g8,s8,k8,n8⟩:=id HD8.out
       have HJJ:Hid _:=HJ4.out _ _ _ s8 HWL.out (by have:=k8.size;simp at this;omega)
       clear Il HJ4 HJ0 s8
       go_wp2_with fail
       refine qD HJJ.out ?_
       rintro e w9⟨rfl,g9,s9,k9,n9⟩
       have HF9:Hid (D7 (w.alloc (.cells #[.int .i64 ck,.string wx,.int .i64 cn] 70)) w9 B D go (fun q=>q=w.heap.size) (I3 4 c (J9 c d1))):=⟨g9,s9,k8.trans k9 n8 (NxtX.refl _ _),n8.trans n9 k8.size⟩
       clear s9 k9 n9 k8 n8 HJJ
       go_wp2_with fail
       go_ret
       refine⟨rfl,?_⟩
       rw[HPC.out,HPJ.out,qA (by simp;omega),qF trivial]
       exact D7.less (D7.pre HF9.out HB0.out)
      .
       have h4':(how==4)=false:=by simpa using h4
       have hz:=bN0 HB0.out (by simp) HD8.out hDl (fun g hg=>(hgo g hg).2) (.int .i64 0) (.string ⟨#[]⟩) (.int .i64 0)
       have hz0:(((w8.setCell ⟨w.heap.size,0,none⟩ (.int .i64 0)).setCell ⟨w.heap.size,1,none⟩ (.string ⟨#[]⟩)).setCell ⟨w.heap.size,2,none⟩ (.int .i64 0)).heap[w.heap.size]? = some (.cells #[.int .i64 0,.string ⟨#[]⟩,.int .i64 0] 70 (0,0)):=by
        have e0:(w8.setCell ⟨w.heap.size,0,none⟩ (.int .i64 0)).heap[w.heap.size]? = some (.cells #[.int .i64 0,.string wx,.int .i64 cn] 70 (0,0)):=by rw[xp _ _ _ _ _ _ Il];simp
        have e1:((w8.setCell ⟨w.heap.size,0,none⟩ (.int .i64 0)).setCell ⟨w.heap.size,1,none⟩ (.string ⟨#[]⟩)).heap[w.heap.size]? = some (.cells #[.int .i64 0,.string ⟨#[]⟩,.int .i64 cn] 70 (0,0)):=by rw[xp _ _ _ _ _ _ e0];simp
        rw[xp _ _ _ _ _ _ e1];simp
       go_upto_region 17 with fail
       clear x0 x1 x2 z0 z1 z2
       obtain⟨w9,hw9⟩:=qE (((w8.setCell ⟨w.heap.size,0,none⟩ (.int .i64 0)).setCell ⟨w.heap.size,1,none⟩ (.string ⟨#[]⟩)).setCell ⟨w.heap.size,2,none⟩ (.int .i64 0))
       rw[<- hw9]at hz hz0 ⊢
       obtain⟨x0,x1,x2⟩:=ay4 hz0
       obtain⟨g8,s8,k8,n8⟩:=hz
       have HJJ:Hid _:=HJ0.out how _ _ _ s8 HWL.out (by have:=k8.size;omega)
       clear Il HJ4 HJ0 s8 hw9 hz0
       go_wp2_with fail
       refine qD HJJ.out ?_
       rintro e w10⟨rfl,g9,s9,k9,n9⟩
       have HF9:Hid (D7 w w10 B D go (fun q=>q=w.heap.size) (I3 how noC (J9 c d1))):=⟨g9,s9,k8.trans k9 n8 (NxtX.refl _ _),n8.trans n9 k8.size⟩
       clear s9 k9 n9 k8 n8 HJJ
       go_wp2_with fail
       go_ret
       refine⟨rfl,?_⟩
       rw[HPC.out,HPJ.out,qA (by simp;omega),qA h4]
       exact D7.less HF9.out
theorem aX3{x:SLine}(h:x.fr.length<1\/4<x.fr.length\/6<x.cs.length):lchk x=2:=by unfold lchk;rw[qF h]
theorem aX4{x:SLine}(h:¬(x.fr.length<1\/4<x.fr.length\/6<x.cs.length)){k:Nat}{s:List UInt8}(hk:x.fr[k]? = some s)(hs:isWord s=false):lchk x=1:=by unfold lchk;rw[qA h,qF];rw[List.all_eq_false];exact⟨s,mGt hk,by simp[hs]⟩
theorem bI5{x:SLine}(h:¬(x.fr.length<1\/4<x.fr.length\/6<x.cs.length))(hf:x.fr.all isWord=true)(hs:isWord x.tu=false):lchk x=1:=by unfold lchk;rw[qA h,qA (by simp[hf]),qF hs]
theorem bI6{x:SLine}(h:¬(x.fr.length<1\/4<x.fr.length\/6<x.cs.length))(hf:x.fr.all isWord=true)(hs:isWord x.tu=true):lchk x=G8 (x.cs.map chk):=by unfold lchk;rw[qA h,qA (by simp[hf]),qA (by simp[hs])]
theorem aa2{α:Type}{f:α->Int}:∀{cs:List α}{k:Nat}{c:α},cs[k]? = some c->(∀d∈cs.take k,f d=0)->f c≠0->G8 (cs.map f)=f c
 | [],k,c,h,_,_=>by simp at h
 | d::r,0,c,h,_,hc=>by
  simp at h;subst h
  rw[qs,G8,qA hc]
 | d::r,k+1,c,h,ha,hc=>by
  rw[qs,G8,qF (ha d (by simp))]
  exact aa2 (k:=k) (by simpa using h) (fun e he=>ha e (by simp[he])) hc
theorem S8{α:Type}{f:α->Int}:∀{cs:List α},(∀d∈cs,f d=0)->G8 (cs.map f)=0
 | [],_=>rfl
 | d::r,h=>by
  rw[qs,G8,qF (h d (by simp))]
  exact S8 (fun e he=>h e (by simp[he]))
theorem ai0{α:Type}{p:α->Prop}{l:List α}{k:Nat}{c:α}(hl:l[k]? = some c)(h:∀x∈l.take k,p x)(hc:p c):∀x∈l.take (k+1),p x:=by
 intro x hx;rw[qX,hl]at hx;simp only[xa,xB,xI]at hx;rcases hx with hx | rfl
 . exact h x hx
 . exact hc
theorem aN5(x:SLine)(af ad:Option Addr)(NF ND cf cd:Nat)(sx:ByteArray)(w:World)(h:NF<1\/4<NF\/6<ND)(hm1:NF<=maxLen)(hm2:ND<=maxLen):
 Calls prog 89 #[.agg #[.slice af NF cf,.slice ad ND cd,.string sx]] w fun e w'=>e=.returned (.int .i64 2)/\Bq w w':=by
 unfold maxLen at hm1 hm2;by_cases h1:NF<1
 . obtain rfl:NF=0:=by omega
   go_enter Tryz.func89,Tryz.ntmps89;go_wp2_with fail;go_ret;exact⟨rfl,i8⟩
 .
  by_cases h2:4<NF
  . have h1':¬((NF:Int)<1):=by omega
    have h2':(4:Int)<NF:=by omega
    clear h;go_enter Tryz.func89,Tryz.ntmps89;go_wp2_with fail;go_ret;exact⟨rfl,i8⟩
  .
   have h1':¬((NF:Int)<1):=by omega
   have h2':¬(4:Int)<NF:=by omega
   have h3':(6:Int)<ND:=by omega
   clear h;go_enter Tryz.func89,Tryz.ntmps89;go_wp2_with fail;go_ret;exact⟨rfl,i8⟩
theorem ab5(x:SLine)(af ad:Option Addr)(cf cd:Nat)(w:World)(hf:Reads w (.slice af x.fr.length cf) x.fr.length (x.fr.map S))(hd:H9 w (.slice ad x.cs.length cd) x.cs)(Ad:M3 x):
 Calls prog 89 #[.agg #[.slice af x.fr.length cf,.slice ad x.cs.length cd,.string ⟨x.tu.toArray⟩]] w fun e w'=>e=.returned (.int .i64 (lchk x))/\Bq w w':=by
 by_cases hm:x.fr.length<1\/4<x.fr.length\/6<x.cs.length
 . rw[aX3 hm];obtain⟨_,_,e1,a1,a2⟩:=hf.shape;obtain⟨_,_,e2,b1,b2⟩:=hd.shape;exact aN5 x af ad _ _ cf cd _ w hm (by omega) (by omega)
 .
  have HF:=qH hf;have HD:=qH hd;have HM:Hid _:=hm;have Db:Hid _:=Ad;obtain⟨NF,hNF⟩:=qE x.fr.length;obtain⟨ND,hND⟩:=qE x.cs.length;have HNF:=qH hNF;have HND:=qH hND;have h1:1<=NF:=by omega
  have h2:NF<=4:=by omega
  have h3:ND<=6:=by omega
  have hWt:=fun W=>ay0 x.tu W Ad.2.2;rw[<- hNF,<- hND];rw[<- hNF]at HF;rw[<- hND]at HD;obtain⟨sx,hsx⟩:=qE (⟨x.tu.toArray⟩:ByteArray);rw[<- hsx]at hWt ⊢;obtain⟨wt,hwt⟩:=qE (isWord x.tu);have HWT:=qH hwt;rw[<- hwt]at hWt;clear hNF hND hf hd hm Ad hsx hwt;go_enter Tryz.func89,Tryz.ntmps89;go_wp2_with fail;go_loopw [27] (fun i wr=>∃k:Nat,k<=NF/\i=.int .i64 k/\wr=w.alloc (.cells #[.slice af NF cf,.slice ad ND cd,.string sx] 56)/\Hid (∀s∈x.fr.take k,isWord s=true)) (fun i _=>NF-(intOf i).toNat)
  case atStart=>exact⟨0,qP _,rfl,rfl,(show ∀s∈x.fr.take 0,isWord s=true by simp)⟩
  case round=>
   obtain⟨k,hk,rfl,rfl,Ae⟩:=hrel;by_cases hlt:k<NF
   .
    obtain⟨s,hs⟩:∃s,x.fr[k]? = some s:=⟨_,gEl (by have:=HNF.out;omega)⟩;have HS:=qH hs;obtain⟨b,off,rfl,Ac⟩:=HF.out.at hs;have Es:=(i8 (w:=w) (o:=.cells #[.slice (some ⟨b,off,none⟩) NF cf,.slice ad ND cd,.string sx] 56)).cell (bLt w _ Ac);rw[Ac]at Es;have hWs:=fun W=>ay0 s W (Db.out.1 s (mGt hs));generalize (⟨s.toArray⟩:ByteArray)=sy at *;clear Ac hs
    cases hw:isWord s with
    | false=>
     have HR:Hid (lchk x=1):=aX4 HM.out HS.out hw
     rw[hw]at hWs
     clear hw Ae
     go_wp2_with fail
     refine (hWs _).mono ?_
     rintro e w1⟨rfl,rfl⟩
     go_wp2_with fail
     go_ret
     exact⟨by rw[HR.out];rfl,i8⟩
    | true=>
     have HA:Hid (∀s∈x.fr.take (k+1),isWord s=true):=ai0 HS.out Ae.out hw
     rw[hw]at hWs
     clear hw Ae
     go_wp2_with fail
     refine (hWs _).mono ?_
     rintro e w1⟨rfl,hw1⟩
     subst hw1
     go_wp2_with fail
     go_roundw
     case rel=>exact⟨k+1,by omega,by go_num,by first|rfl | trivial,HA⟩
     case measure=>simp[intOf];omega
   .
    have Hm:x.fr.all isWord=true:=by have e:=Ae.out;rw[qO (by have:=HNF.out;omega)]at e;exact zS.2 e
    have HA:Hid _:=Hm;clear Ae Hm
    cases wt with
    | false=>
     have HR:Hid (lchk x=1):=bI5 HM.out HA.out HWT.out.symm
     clear HM HA
     go_wp2_with fail
     refine (hWt _).mono ?_
     rintro e w1⟨rfl,rfl⟩
     go_wp2_with fail
     go_ret
     exact⟨by rw[HR.out];rfl,i8⟩
    | true=>
     have HR:Hid (lchk x=G8 (x.cs.map chk)):=bI6 HM.out HA.out HWT.out.symm
     clear HM HA
     go_wp2_with fail
     refine (hWt _).mono ?_
     rintro e w1⟨rfl,rfl⟩
     clear hWt
     go_wp2_with fail
     go_loopw [42] (fun i wr=>∃k:Nat,k<=ND/\i=.int .i64 k/\Hid (Bq w wr)/\Hid (∀c∈x.cs.take k,chk c=0)) (fun i _=>ND-(intOf i).toNat)
     case atStart=>exact⟨0,qP _,rfl,i8,(show ∀c∈x.cs.take 0,chk c=0 by simp)⟩
     case round=>
      obtain⟨k,hk,rfl,Aa,Ae⟩:=hrel
      by_cases hlt:k<ND
      .
       obtain⟨c,hc⟩:∃c,x.cs[k]? = some c:=⟨_,gEl (by have:=HND.out;omega)⟩
       have HS:=qH hc
       obtain⟨b,off,rfl,hc0,hc1,hc2⟩:=(H9.below HD.out Aa.out).at hc
       have hCk:=fun W=>ah7 c W (Db.out.2.1 c (mGt hc))
       unfold Cmd.v at hCk
       generalize hr:chk c=r at *
       have HRr:=qH hr
       generalize c.kind=ck at *
       generalize c.n=cn at *
       generalize (⟨c.word.toArray⟩:ByteArray)=sy at *
       clear hc hr
       go_wp2_with fail
       refine (hCk _).mono ?_
       rintro e w1⟨rfl,hb1⟩
       have HB:Hid (Bq w w1):=(Aa.out.alloc Aa.out.size _).trans (hb1.mono (by simp;exact zk Aa.out.size))
       clear hb1 Aa
       by_cases hr0:r=0
       . subst hr0
         have HA:Hid (∀c∈x.cs.take (k+1),chk c=0):=ai0 HS.out Ae.out HRr.out
         clear Ae
         go_wp2_with fail
         go_roundw
         case rel=>exact⟨k+1,by omega,by go_num,HB,HA⟩
         case measure=>simp[intOf];omega
       . have HA:=qH (show lchk x=r from by rw[HR.out,aa2 HS.out Ae.out (by rw[HRr.out];exact hr0),HRr.out])
         clear Ae
         go_wp2_with fail
         go_ret
         exact⟨by rw[HA.out];rfl,HB.out⟩
      .
       have HA:Hid (lchk x=0):=by
        show _=_
        rw[HR.out]
        have e:=Ae.out
        rw[qO (by have:=HND.out;omega)]at e
        exact S8 e
       clear Ae HR
       go_wp2_with fail
       go_ret
       exact⟨by rw[HA.out];rfl,Aa.out⟩
theorem bA7{P:Program}{ops:Array Oper}{o:Oper}{a:Act}{w:World}{K:Act->World->Prop}{Q:Exit->Act->World->Prop}{E:Prop}{R:Ending->World->Prop}
 (hgd:o.guard=none) (f:FuncId) (args:Array Value) (Aj:(execOp a.eval o).run P w=.ok (.enter f args) w) (hc:Calls P f args w R) (h:∀e w',R e w'->∃v,e=.returned v/\K (a.put o.dst v) w'):
 if Region.wanted o (yielded ops a.tmps)=true then Oper.wp P o a w K Q else E:=by
 have hw:Region.wanted o (yielded ops a.tmps)=true:=by simp[Region.wanted,hgd]
 rw[qF hw];unfold Oper.wp;rw[Aj,Oper.upon_enter];refine hc.mono fun e w'' hh=>?_;obtain⟨v,rfl,hk⟩:=h e w'' hh;exact hk
def SRel(w1 wr:World)(D:Nat)(fr:List (List UInt8))(k:Nat)(ov v:Value)(rows:List NRow):Prop:=
 wr.heap[D]? = some (.cells #[v,ov] 144 (0,0))/\NO wr D D (fun q=>ov.ownBlock=some q) 73 v rows/\rows.map (·.1)=(D8 (fr.take k)).1 /\
 wr.ownsRow D 79 2 ov k (A4 (D8 (fr.take k)).2)/\(∀g,ov.ownBlock=some g->v.ownBlock≠some g/\g≠D)/\Below D w1 wr
theorem SRel.start(w1:World)(fr:List (List UInt8)):SRel w1 (w1.alloc (.cells #[.slice none 0 0,.slice none 0 0] 144)) w1.heap.size fr 0 (.slice none 0 0) (.slice none 0 0) []:=
 ⟨qN _ _,NO.nil _ _ _ _ _,by simp[D8],World.ownsRow_nil _ _ _ _,fun g hg=>by simp[Value.ownBlock]at hg,i8⟩
theorem SRel.add{w1 wr W2:World}{D:Nat}{fr:List (List UInt8)}{k:Nat}{ov v:Value}{rows:List NRow}(h:SRel w1 wr D fr k ov v rows)(hb:Bq wr W2)(f:List UInt8)(hl:rows.length<=60):
 Calls prog 90 #[.pointer (some ⟨D,0,none⟩),.agg #[.int .i64 1,.string ⟨f.toArray⟩,.int .i64 0,.string ⟨#[]⟩,.int .i64 0,.int .i64 0,.int .i64 0,.slice none 0 0]] W2 fun e w'=>aM8 W2 D D (fun q=>ov.ownBlock=some q) v ov rows (srcN f,none,0) 1 e w':=by obtain⟨h1,h2,h3,h4,h5,h6⟩:=h;have hDl:=I9 h1;exact aM9 (srcN f) none 0 D D _ v ov rows W2 1 rfl (by omega) ((hb.block _ hDl).trans h1) (h2.below hb) (POff.nil _ _ _ _) hl (qB _) (by have:=hb.size;omega)
theorem SRel.own4{w1 wr W2 w4:World}{D:Nat}{fr:List (List UInt8)}{k:Nat}{ov v:Value}{rows:List NRow}(h:SRel w1 wr D fr k ov v rows)(hb:Bq wr W2)(hk:Kept D v.ownBlock noX W2 w4):w4.ownsRow D 79 2 ov k (A4 (D8 (fr.take k)).2):=by
 obtain⟨h1,h2,h3,h4,h5,h6⟩:=h;refine aw1 h4 (fun g hg hl=>?_);rw[hk.block g (xT hl hb.size) (fun e=>?_),hb.block g hl];rcases e with e | e | e
 . exact (h5 g hg).2 e
 . exact (h5 g hg).1 e
 . exact e
theorem SRel.step{w1 wr W2 w4 w5:World}{D:Nat}{fr:List (List UInt8)}{k:Nat}{ov v:Value}{rows:List NRow}(h:SRel w1 wr D fr k ov v rows){f:List UInt8}(hf:fr[k]? = some f)(hDw:D<=w1.heap.size)(hb:Bq wr W2){v4 ov5:Value}{r:NRow}(hr:r.1=srcN f)
 (q1:w4.heap[D]? = some (.cells #[v4,ov] 144 (0,0))) (q2:NO w4 D D (fun q=>ov.ownBlock=some q) 73 v4 (rows++[r])) (q6:Kept D v.ownBlock noX W2 w4) (q7:Nxt W2 v.ownBlock v4.ownBlock)
 (ow:w5.ownsRow D 79 2 ov5 (k+1) (A4 (D8 (fr.take k)).2++A4 (l5 rows.length 1))) (gr:w4.grownBy w5 ov.ownBlock) (bl:ov5.ownBlock=ov.ownBlock\/ov5.ownBlock=some w4.heap.size):
 SRel w1 (w5.setCell ⟨D,1,none⟩ ov5) D fr (k+1) ov5 v4 (rows++[r])/\w5.heap[D]? = some (.cells #[v4,ov] 144 (0,0)):=by
 obtain⟨h1,h2,h3,h4,h5,h6⟩:=h;have hDl:=I9 h1;have hrl:rows.length=(D8 (fr.take k)).1.length:=by rw[<- h3];simp
 have hs1:=hb.size;have hs2:=q6.size;have Hn:D8 (fr.take (k+1))=pSrc (D8 (fr.take k)) f:=by rw[qX,hf,xa,bl7]
 have hne:∀g,ov.ownBlock=some g->v4.ownBlock≠some g:=by
  intro g hg e;rcases q7 with e7 | ⟨g',e7,hg'⟩
  . exact (h5 g hg).1 (by rw[<- e7];exact e)
  . rw[e7]at e;injection e with e;have:=aN1 h4 g hg;omega
 have hv4:∀g,v4.ownBlock=some g->g<w4.heap.size:=fun g hg=>(q2.base g hg).2;have hND:Nxt w4 ov.ownBlock ov5.ownBlock:=by
  rcases bl with e | e
  . exact .inl e
  . exact .inr ⟨_,e,qB _⟩
 have hkd:Kept D v4.ownBlock (fun q=>ov.ownBlock=some q) w4 w5:=Kept.of_grown gr (fun k e=>.inr (.inr e));have hD5:w5.heap[D]? = some (.cells #[v4,ov] 144 (0,0)):=by rw[gr.block D (by omega) (fun e=>(h5 D e.symm).2 rfl)];exact q1
 have Gn:NO w5 D D (fun q=>ov5.ownBlock=some q) 73 v4 (rows++[r]):=q2.keep hkd (fun g hg=>gr.block g (hv4 g hg) (fun e=>hne g e.symm hg)) (fun q hq hx=>hND.old hq hx);have Xb:∀g,ov5.ownBlock=some g->v4.ownBlock≠some g/\g≠D:=by
  intro g hg;rcases bl with e | e
  . rw[e]at hg;exact⟨hne g hg,(h5 g hg).2⟩
  . rw[e]at hg;injection hg with hg;refine⟨fun e3=>?_,by omega⟩;have:=hv4 g e3;omega
 refine⟨⟨?_,Gn.set rfl,?_,?_,Xb,?_⟩,hD5⟩
 . rw[xp _ _ _ _ _ _ hD5];simp
 . rw[qz,h3,Hn,qs,List.map_nil,hr];rfl
 . have e2:A4 (D8 (fr.take (k+1))).2=A4 (D8 (fr.take k)).2++A4 (l5 rows.length 1):=by rw[Hn,Q7,hrl];simp[pSrc,A4]
   rw[e2];exact aw1 ow (fun g hg hl=>qJ _ _ _ _ (Xb g hg).2)
 .
  have b1:Below D w1 W2:=h6.trans (hb.mono (by omega));have b2:Below D W2 w4:=q6.below (by omega) (qB _) (fun g hg=>(h2.base g hg).1) (fun g hg=>hg.elim)
  have b3:Below D w4 w5:=hkd.below (by omega) (qB _) (fun g hg=>(q2.base g hg).1) (fun g hg=>by
   rcases id h4.2 with⟨e,_⟩|⟨g',cap,cur,e,hb,_⟩
   . rw[e]at hg;simp[Value.ownBlock]at hg
   . rw[e]at hg;simp[Value.ownBlock]at hg;omega)
  exact ((b1.trans b2).trans b3).setCell (qB _) _
theorem SRel.done{w1 wr:World}{D:Nat}{fr:List (List UInt8)}{k:Nat}{ov v:Value}{rows:List NRow}(h:SRel w1 wr D fr k ov v rows)(hk:k=fr.length):DSt wr D D v.ownBlock noX (D8 fr):=by
 subst hk;obtain⟨h1,h2,h3,h4,h5,h6⟩:=h;rw[qZ]at h3 h4;have hl2:(D8 fr).2.length=fr.length:=by have:=(Y1 fr ([],[])).2;simpa[D8]using this
 have h4':wr.ownsRow D 79 2 ov (D8 fr).2.length (A4 (D8 fr).2):=by rw[hl2];exact h4
 obtain⟨ao,cap,rfl,hrp⟩:=aF9 h4';refine⟨v,rows,ao,cap,rfl,h1,h2.less (fun k _ hk=>hk.elim),h3,⟨hrp,fun _ a ha hf=>?_⟩,qB _,fun k hk=>hk.elim⟩;have hg:=h5 a.block (by rw[ha];rfl);rcases hf with e | e | e
 . exact hg.2 e
 . exact hg.1 e
 . exact e
def t8(l:SLine)(W:Int):List SNode × Int:=if lchk l≠0 then ([],lchk l) else if W<1\/5<W then ([],3) else (plan l W.toNat,0)
theorem aX5{l:SLine}{W:Int}(h:lchk l≠0):t8 l W=([],lchk l):=by unfold t8;rw[qF h]
theorem bn9{l:SLine}{W:Int}(h:lchk l=0)(hw:W<1\/5<W):t8 l W=([],3):=by unfold t8;rw[qA (by simp[h]),qF hw]
theorem ay5{l:SLine}{W:Int}(h:lchk l=0)(hw:¬(W<1\/5<W)):t8 l W=(plan l W.toNat,0):=by unfold t8;rw[qA (by simp[h]),qA hw]
def aK0(w:World)(p:List SNode × Int)(e:Ending)(w':World):Prop:=∃ao cap,e=.returned (.tuple #[.agg #[.slice ao p.1.length cap],.int .i64 p.2])/\D4 w' (.slice ao p.1.length cap) p.1/\Bq w w'
theorem an7(w:World):D4 w (.slice none 0 0) []:=⟨none,0,rfl,by simp,by simp[maxLen],fun h=>absurd rfl h⟩
theorem bo0{w:World}{ao:Option Addr}{cap:Nat}{ps:List (Int × Int)}(h:F2 w (.slice ao ps.length cap) ps){a:Addr}{x:Option Addr}{y z:Nat}(hc:w.cell? a=some (.slice x y z))(u:Value):F2 (w.setCell a u) (.slice ao ps.length cap) ps:=by obtain⟨ao',cap',e,h2,h3,h4⟩:=h;injection e with e1 e2 e3;subst e1 e3;refine⟨ao,cap,rfl,h2,h3,fun hn=>?_⟩;obtain⟨b,off,rfl,hcs⟩:=h4 hn;refine⟨b,off,rfl,fun j p hp=>?_⟩;obtain⟨c1,c2⟩:=hcs j p hp;exact⟨(zI w a _ u (fun e=>by rw[<- e,hc]at c1;cases c1)).trans c1,(zI w a _ u (fun e=>by rw[<- e,hc]at c2;cases c2)).trans c2⟩
theorem NO.setR{w:World}{B D:Nat}{X:Nat->Prop}{e:TypeId}{v:Value}{rows:List NRow}(h:NO w B D X e v rows){a:Addr}(ha:a.block<B){x:Option Addr}{y z:Nat}(hc:w.cell? a=some (.slice x y z))(u:Value):NO (w.setCell a u) B D X e v rows:=
 ⟨ownsRow_setCell_below h.own ha u,fun r hr=>⟨bo0 (h.good r hr).1 hc u,(h.good r hr).2⟩,h.off⟩
def LR(W:World)(b0:Nat)(x y z:Value):Prop:=W.heap[b0]? = some (.cells #[x,y,z] 56 (0,0))/\W.heap[b0+1]? = some (.cells #[.slice none 0 0] 24 (0,0))
theorem LR.cells{W:World}{b0:Nat}{x y z:Value}(h:LR W b0 x y z):W.cell? ⟨b0,0,none⟩=some x/\W.cell? ⟨b0,1,none⟩=some y/\W.cell? ⟨b0,2,none⟩=some z/\W.cell? ⟨b0+1,0,none⟩=some (.slice none 0 0)/\W.frozen? ⟨b0+1,0,none⟩=false:=by
 refine⟨?_,?_,?_,?_,xK _ _ _ _ _ h.2⟩
 . rw[qV _ _ _ _ _ _ h.1];rfl
 . rw[qV _ _ _ _ _ _ h.1];rfl
 . rw[qV _ _ _ _ _ _ h.1];rfl
 . rw[qV _ _ _ _ _ _ h.2];rfl
theorem LR.start{w w1:World}{x y z:Value}(hb:Below ((w.alloc (.cells #[x,y,z] 56)).alloc (.cells #[.slice none 0 0] 24)).heap.size ((w.alloc (.cells #[x,y,z] 56)).alloc (.cells #[.slice none 0 0] 24)) w1):LR w1 w.heap.size x y z:=by
 refine⟨?_,?_⟩
 . rw[hb.block _ (by simp;omega),Below.heap_alloc _ _ _ (by simp)];exact qN w _
 . rw[hb.block _ (by simp)];have:=qN (w.alloc (.cells #[x,y,z] 56)) (.cells #[.slice none 0 0] 24);simpa using this
theorem LR.below{W W':World}{b0 D:Nat}{x y z:Value}(h:LR W b0 x y z)(hb:Below D W W')(hD:b0+1<D):LR W' b0 x y z:=⟨(hb.block _ (by omega)).trans h.1,(hb.block _ hD).trans h.2⟩
theorem P2{w:World}{o1 o2:Obj}:Bq w ((w.alloc o1).alloc o2):=i8.trans (i8.mono (by simp))
theorem bZ9(l:SLine)(W:Int)(af ad:Option Addr)(cf cd:Nat)(w:World)(hf:Reads w (.slice af l.fr.length cf) l.fr.length (l.fr.map S))(hd:H9 w (.slice ad l.cs.length cd) l.cs)(Ad:M3 l)(h:lchk l≠0\/W<1\/5<W):
 Calls prog 28 #[.agg #[.slice af l.fr.length cf,.slice ad l.cs.length cd,.string ⟨l.tu.toArray⟩],.int .i64 W] w fun e w'=>aK0 w (t8 l W) e w':=by
 have HC:Hid _:=fun(W:World)(hb:Bq w W)=>ab5 l af ad cf cd W (hf.below hb) (hd.below hb) Ad;have HB1:=qH (show lchk l≠0->t8 l W=([],lchk l) from aX5);have HB2:=qH (show lchk l=0->(W<1\/5<W)->t8 l W=([],3) from bn9);generalize t8 l W=pt at *;generalize lchk l=ck at *;generalize (⟨l.tu.toArray⟩:ByteArray)=tx at *;generalize l.fr.length=NF at *;generalize l.cs.length=ND at *;clear hf hd Ad;by_cases hck:ck=0
 .
  subst hck;have hw:W<1\/5<W:=by rcases h with h | h;exact absurd rfl h;exact h
  have HPT:=HB2.out rfl hw;subst HPT;clear HB1 HB2 h;by_cases hw1:W<1
  . clear hw;go_enter Tryz.func28,Tryz.ntmps28;go_wp2_with fail;refine (HC.out _ P2).mono ?_;rintro e w1⟨rfl,hb1⟩;have HBB:Hid (Bq w w1):=P2.trans (hb1.mono (by simp;omega));obtain⟨x0,x1,x2,x3,x4⟩:=(LR.start hb1).cells;clear hb1 HC;go_wp2_with fail;(try simp only[Exit.inBlock,Exit.then])
    refine xA (v:=.tuple #[.agg #[.slice none 0 0],.int .i64 3]) ?_ rfl ⟨none,0,rfl,an7 _,HBB.out.setCell (by simp) _⟩;rw[results_cell_tmp rfl];go_simp
  . have hw5:5<W:=by omega
    clear hw;go_enter Tryz.func28,Tryz.ntmps28;go_wp2_with fail;refine (HC.out _ P2).mono ?_;rintro e w1⟨rfl,hb1⟩;have HBB:Hid (Bq w w1):=P2.trans (hb1.mono (by simp;omega));obtain⟨x0,x1,x2,x3,x4⟩:=(LR.start hb1).cells;clear hb1 HC;go_wp2_with fail;(try simp only[Exit.inBlock,Exit.then])
    refine xA (v:=.tuple #[.agg #[.slice none 0 0],.int .i64 3]) ?_ rfl ⟨none,0,rfl,an7 _,HBB.out.setCell (by simp) _⟩;rw[results_cell_tmp rfl];go_simp
 . have HPT:=HB1.out hck;subst HPT;clear HB1 HB2 h;go_enter Tryz.func28,Tryz.ntmps28;go_wp2_with fail;refine (HC.out _ P2).mono ?_;rintro e w1⟨rfl,hb1⟩;have HBB:Hid (Bq w w1):=P2.trans (hb1.mono (by simp;omega));obtain⟨x0,x1,x2,x3,x4⟩:=(LR.start hb1).cells;clear hb1 HC;go_wp2_with fail;(try simp only[Exit.inBlock,Exit.then])
   refine xA (v:=.tuple #[.agg #[.slice none 0 0],.int .i64 ck]) ?_ rfl ⟨none,0,rfl,an7 _,HBB.out.setCell (by simp) _⟩;rw[results_cell_tmp rfl];go_simp
theorem aX6{ls:List SLine}(h:6<ls.length):schk ls=2:=by unfold schk;rw[qF h]
theorem bo1{ls:List SLine}(h:¬6<ls.length):schk ls=G8 (ls.map lchk):=by unfold schk;rw[qA h]
theorem aX7(ao:Option Addr)(cap:Nat)(ls:List SLine)(w:World)(hl:I0 w (.slice ao ls.length cap) ls)(Ad:∀x∈ls,M3 x):
 Calls prog 107 #[.slice ao ls.length cap] w fun e w'=>e=.returned (.int .i64 (schk ls))/\Bq w w':=by
 obtain⟨_,_,e0,hm1,hm2⟩:=hl.shape;injection e0 with e1 e2 e3;subst e3;unfold maxLen at hm2;have HL:=qH hl;have Db:Hid _:=Ad;obtain⟨N,hN⟩:=qE ls.length;have HN:=qH hN;rw[<- hN];rw[<- hN]at HL;by_cases Ey:6<N
 .
  have HR:Hid (schk ls=2):=aX6 (by omega);have hq:(6:Int)<N:=by omega
  have hN2:N<=9223372036854775807:=by omega
  clear hl Ad hm1 hN e1 hm2;go_enter Tryz.func107,Tryz.ntmps107;go_wp2_with fail;go_ret;exact⟨by rw[HR.out];rfl,qI _ _⟩
 .
  have HR:Hid (schk ls=G8 (ls.map lchk)):=bo1 (by omega);have hN6:N<=6:=by omega
  clear hl Ad hm1 hN e1 Ey hm2;go_enter Tryz.func107,Tryz.ntmps107;go_wp2_with fail;go_loopw [11] (fun i wr=>∃k:Nat,k<=N/\i=.int .i64 k/\Hid (Bq w wr)/\Hid (∀x∈ls.take k,lchk x=0)) (fun i _=>N-(intOf i).toNat)
  case atStart=>exact⟨0,qP _,rfl,qI _ _,(show ∀x∈ls.take 0,lchk x=0 by simp)⟩
  case round=>
   obtain⟨k,hk,rfl,Aa,Ae⟩:=hrel;by_cases hlt:k<N
   .
    obtain⟨x,hx⟩:∃x,ls[k]? = some x:=⟨_,gEl (by have:=HN.out;omega)⟩;have HS:=qH hx;obtain⟨b,off,af,cf,ad,cd,rfl,hc0,hc1,hc2,hr,hd⟩:=(I0.below HL.out Aa.out).at hx;have hCk:=fun(W:World)(hb:Bq wr W)=>ab5 x af ad cf cd W (hr.below hb) (hd.below hb) (Db.out x (mGt hx));generalize hrr:lchk x=r at *;have HRr:=qH hrr;generalize (⟨x.tu.toArray⟩:ByteArray)=sy at *;generalize x.fr.length=NF at *;generalize x.cs.length=ND at *;have HC:Hid _:=hCk;clear hx hrr hr hd hCk;go_wp2_with fail;refine (HC.out _ (i8)).mono ?_;rintro e w1⟨rfl,hb1⟩;have HB:Hid (Bq w w1):=(Aa.out.alloc Aa.out.size _).trans (hb1.mono (by simp;exact zk Aa.out.size));clear hb1 Aa HC;by_cases hr0:r=0
    . subst hr0;have HA:Hid (∀x∈ls.take (k+1),lchk x=0):=ai0 HS.out Ae.out HRr.out;clear Ae;go_wp2_with fail;go_roundw
      case rel=>exact⟨k+1,by omega,by go_num,HB,HA⟩
      case measure=>simp[intOf];omega
    . have HA:=qH (show schk ls=r from by rw[HR.out,aa2 HS.out Ae.out (by rw[HRr.out];exact hr0),HRr.out]);clear Ae;go_wp2_with fail;go_ret;exact⟨by rw[HA.out];rfl,HB.out⟩
   . have HA:Hid (schk ls=0):=by show _=_;rw[HR.out];have e:=Ae.out;rw[qO (by have:=HN.out;omega)]at e;exact S8 e
     clear Ae HR;go_wp2_with fail;go_ret;exact⟨by rw[HA.out];rfl,Aa.out⟩
end Go.Proofs.YtllgglolcgdehaaGreatDoor
