/- What the developers' full does, and more. -/
import Derived.Test.YtllgglolcgdehaaGreatDoorQAb
import Derived.Test.YtllgglolcgdehaaGreatDoorQa19
set_option maxRecDepth 100000
set_option maxHeartbeats 16000000
namespace Go.Proofs.YtllgglolcgdehaaGreatDoor
open Go.RowKit Go.Gs Go.Maps
set_option linter.unusedVariables false
variable {G:World->(Nat->Option Own)->Prop}
def F7 (out GM:List (List UInt8)) (k:Nat):List (List UInt8):=List.zipWith (· ++ ·) (out.take k) (GM.take k)++out.drop k
theorem by0 (out GM:List (List UInt8)):F7 out GM 0=out:=by simp[F7]
theorem aV8 {out GM:List (List UInt8)} (h:out.length=GM.length) (k:Nat):(F7 out GM k).length=out.length:=by unfold F7;rw[List.length_append,List.length_zipWith,List.length_take,List.length_take,List.length_drop];omega
theorem bW5 {out GM:List (List UInt8)} (h:out.length=GM.length) {k j:Nat} (hj:k<=j):(F7 out GM k)[j]? = out[j]?:=by
 unfold F7;by_cases hjl:j<out.length
 . rw[List.getElem?_append_right (by rw[List.length_zipWith,List.length_take,List.length_take];omega),List.length_zipWith,List.length_take,List.length_take,List.getElem?_drop];congr 1;omega
 . rw[List.getElem?_eq_none (by rw[List.length_append,List.length_zipWith,List.length_take,List.length_take,List.length_drop];omega),List.getElem?_eq_none (by omega)]
theorem by1 {out GM:List (List UInt8)} {k:Nat} {b c:List UInt8} (h:out.length=GM.length) (hb:out[k]? = some b) (hc:GM[k]? = some c):(F7 out GM k).set k (b++c)=F7 out GM (k+1):=by
 have hkl:k<out.length:=(gSm hb).1;have hkl2:k<GM.length:=(gSm hc).1;have hlen:(List.zipWith (· ++ ·) (out.take k) (GM.take k)).length=k:=by rw[List.length_zipWith,List.length_take,List.length_take];omega
 unfold F7;rw[List.set_append_right _ _ (by omega),hlen,Nat.sub_self];rw[List.take_add_one,List.take_add_one,hb,hc];have:out.drop k=b::out.drop (k+1):=by rw[List.drop_eq_getElem_cons hkl];rw[gEl hkl] at hb;injection hb with hb;rw[hb]
 rw[this,List.set_cons_zero];simp only[Option.toList_some];rw[List.zipWith_append (by simp;omega)];simp
theorem bH6 {out GM:List (List UInt8)} (h:out.length=GM.length):F7 out GM out.length=List.zipWith (· ++ ·) out GM:=by unfold F7;rw[List.take_length,h,List.take_length,List.drop_of_length_le (by omega),List.append_nil]
theorem bM5 {w W wr:World} {ar:Option Addr} {cr:Nat} {us:List Value} {GM:List (List UInt8)} (h1:W.ownsRow w.heap.size 28 1 (.slice ar GM.length cr) GM.length us) (h2:∀(j:Nat) b,GM[j]? = some b -> ∃u,us[j]? = some u/\Reads W u b.length (b.map U)/\NewV w.heap.size u)
 (hk:∀j,w.heap.size<=j->j<W.heap.size->wr.heap[j]? = W.heap[j]?) {k:Nat} {b:List UInt8} (hb:GM[k]? = some b) :
 ∃g au cu,ar=some ⟨g,0,none⟩/\wr.cell? ⟨g,k,none⟩=some (.slice au b.length cu)/\Reads wr (.slice au b.length cu) b.length (b.map U):=by
 have hkl:k<GM.length:=(gSm hb).1;obtain⟨g,cap,e,hc1,hc2,hg,Ac,hf⟩:=(j8 h1).2 (by omega);injection e with e1 e2 e3;obtain⟨u,hu,hr,hn⟩:=h2 k b hb;obtain⟨q1,au,cu,rfl,q2,q3,q4⟩:=id hr;have hgw:w.heap.size<=g:=(h1.lt g (by rw[e1];rfl)).1;refine⟨g,au,cu,e1,?_,?_⟩
 . have:=Ac k (by omega);rw[hu] at this;rw[<- this];simp only[World.cell?];rw[hk g hgw hg]
 .
  by_cases h0:b.length=0
  . exact⟨q1,au,cu,rfl,q2,q3,fun hn=>absurd h0 hn⟩
  . obtain⟨bb,off,e4,hcc⟩:=q4 h0;have hbl:bb<W.heap.size:=bLt W _ (hcc 0 _ (gEl (by rw[q1];omega)));refine ad8 hr (fun a ha=>?_);rw[ha] at e4;injection e4 with e4;subst e4;exact hk bb (hn _ _ _ (by rw[ha])) hbl
theorem ax8 {M:SMach} {i:Nat} {p:SProc} (h:M.ps[i]? = some p):M.setP i ⟨p.got,p.pos,p.out,p.rd,p.ov⟩=M:=by
 unfold SMach.setP;have:M.ps.set i p=M.ps:=by
  apply List.ext_getElem?;intro j;by_cases e:i=j
  . subst e;rw[x8 h,h]
  . rw[E0 e]
 show (⟨M.ns,M.fs,M.pipes,M.ps.set i p,M.sunk⟩:SMach)=M;rw[this]
structure ShapeG (M:SMach):Prop where
 gok:gchk M.ns=0
 fok:fchk M.fs=0
 plen:M.ps.length=M.ns.length
theorem ShapeG.g {M:SMach} (h:ShapeG M):RightG M.ns:=D7 h.gok
theorem _root_.Go.Gs.Shape.toG {M:SMach} (h:Shape M):ShapeG M:=⟨h.gok,h.fok,h.plen⟩
theorem aV9 (D r:Nat) (O:Nat->Option Own) (d:RD) (i:Nat) (n:SNode) (p:SProc) (w:World) (h:RunM G w D r O d) (hS:ShapeG d.M) (hn:d.M.ns[i]? = some n) (hp:d.M.ps[i]? = some p) (Ad:M4 n) (hT:p.got.flatten.length<=241200) (hsm:∀b∈p.out,b.length<=100000000) (hE:∀W,Below D w W->t8 W) (hol':(p.out.length:Int)=nouts n) (Vn:p.got.length=n.ins.length) :
 Calls Tryz.prog 120 #[.pointer (some ⟨r,0,none⟩),.int .i64 i] w fun e w'=>e=.returned (.int .i64 0)/\l6 G w' D r (d.M.setP i (D6 n d.M.fs p))/\Below D w w':=by
 have hch:=hS.g.node n (mGt hn);obtain⟨gP,cP,s,hvP,Dy,Fb,hgP,hOP,hs,p0,p1,p2,p3,p4,hfP,hGo,hOo,hgl,hol⟩:=h.procAt hp;obtain⟨⟨ao,co,hov,Gl,Ek⟩,_⟩:=j8 hOo;obtain⟨⟨ag,cg,hgv,Qm,Qn⟩,_⟩:=j8 hGo;have hil:i<d.M.ps.length:=(gSm hp).1;obtain⟨b0,b1,b2,b3,b4,b5,b6⟩:=O5 h.box.1;obtain⟨hRN,hRF⟩:=h.nodes;obtain⟨an,cn,hvN,Jj,Ef⟩:=hRN.shape;obtain⟨af,cf,hvF,hcf1,hcf2⟩:=hRF.shape;rw[hvN] at hRN b0;rw[hvF] at hRF b1;rw[hvP] at b3;obtain⟨nb,noff,ai,ci,rfl,hNA,HPo⟩:=hRN.at hn
 have hMD:∀W,Bq w W->Calls Tryz.prog 167 #[D2 n ai n.ins.length ci,.slice af d.M.fs.length cf,s.gv] W fun e w'=>T9 W (i8 n d.M.fs p.got) e w':=fun W hW=>
  bx6 n ai af ci cf d.M.fs s.gv p.got W hch Ad ((h.gots hp hs).below hW) Vn hT (hRF.below hW) hS.fok (hE W (hW.mono h.le))
 have hGl:p.out.length=(i8 n d.M.fs p.got).length:=by have:=m9 hch d.M.fs p.got;omega
 have hGb:∀c∈i8 n d.M.fs p.got,c.length<=300000:=by intro c hc;have:=aC8 hch d.M.fs (fun f hf=>(J2 (I0 hS.fok).2 f hf).2) p.got Vn (by omega);have:=L9 hc;omega
 obtain⟨c0,c1,c2,c3,c4,c5,c6,c7⟩:=hNA;rw[hgv] at p0 hMD;rw[hov] at p2;have HMD:Hid _:=hMD;obtain⟨GM,hG⟩:=qE (i8 n d.M.fs p.got);have HG:=qH hG;rw[<- hG] at HMD hGl hGb;have HGL:=qH hGl;have HGB:=qH hGb;have HSM:=qH hsm;have HH:=qH h;have HP:=qH hp;have HSl:=qH hs;have HVP:=qH hvP;have HOV:=qH hov;have HGV:=qH hgv;obtain⟨NP,hNP⟩:=qE d.M.ps.length;have HNP:=qH hNP;obtain⟨NN,hNN⟩:=qE d.M.ns.length;have hin:i<NN:=by rw[hNN,<- hS.plen];exact hil
 obtain⟨OL,hOL⟩:=qE p.out.length;have HOL:=qH hOL;rw[<- hNP] at b3 hil Dy;rw[<- hNN] at b0 Jj;rw[<- hOL] at p2 Gl;have Ny:cn<=9223372036854775807:=by unfold maxLen at Ef;exact Ef
 unfold D2 at HMD;generalize (⟨n.file.toArray⟩:ByteArray)=fx at *;generalize (⟨n.c.word.toArray⟩:ByteArray)=wx0 at *;generalize n.c.kind=ck at *;generalize n.c.n=cn' at *;generalize n.how=hw at *;generalize n.wide=wd at *;generalize n.kind=nk at *;generalize n.ins.length=IL at *;generalize d.M.fs.length=NF at *;generalize p.got.length=GL at *;clear h hS hn hp hs hvP hov hgv hsm hE hol' hGo hOo hgl hol hRN hRF hMD hG hGl hGb HPo hNP hNN hOL hvN hvF hch hT Ad Ef b2 b4 b5 b6 Qm Qn hcf1 hcf2 hOP hfP p1 p3 p4 Ek Vn;go_enter Tryz.func120,Tryz.ntmps120;go_upto_region 2 with fail;go_cut [6,7] (fun x y wx=>∃ar cr,x=.slice ar OL cr/\y=.int .i64 0/\Hid (∃us,wx.ownsRow w.heap.size 28 1 (.slice ar GM.length cr) GM.length us/\(∀(j:Nat) b,GM[j]? = some b -> ∃u,us[j]? = some u/\Reads wx u b.length (b.map U)/\NewV w.heap.size u)/\Bq w wx))
 case first=>
  go_region_with (go_at_call 167;refine Calls.mono (HMD.out _ (by first | exact Below.refl _ _ | exact (Below.refl _ w).drew)) ?_;rintro e w2 hM2;obtain⟨ar,cr,us,rfl,m1,m2,m3⟩:=hM2;have HU:Hid _:=And.intro m1 (And.intro m2 m3);clear m1 m2 m3)
  all_goals
   go_wp2_with fail
   go_meet
   exact⟨ar,cr,by rw[HOL.out,HGL.out],rfl,(show ∃us,_ from ⟨us,HU.out.1,HU.out.2.1,((Below.refl w.heap.size w).drew).trans HU.out.2.2⟩)⟩
 case rest=>
  obtain⟨ar,cr,rfl,rfl,hM⟩:=hcut;obtain⟨us,m1,m2,m3⟩:=hM.out;have HM1:Hid _:=m1;have HM2:Hid _:=m2;have HM3:=qH m3;have hR2:=RMem.below HH.out m3;have HR2:=qH hR2;obtain⟨⟨_,_,Vo,Qo,Nz⟩,_⟩:=j8 m1;injection Vo with hsh1 hsh2 hsh3;have hcr:OL<=cr:=by have:=HGL.out;have:=HOL.out;omega
  have hcr':cr<=9223372036854775807:=by unfold maxLen at Nz;omega
  have HLO:Hid (∀j,w.heap.size<=j->O j=none):=(show ∀j,w.heap.size<=j->O j=none from fun j hj=>by
   cases hOj:O j with
   | none=>rfl
   | some o=>exact absurd (HH.out.lo j o hOj).2 (by omega))
  clear hM m1 m2 m3 hR2 Qo Nz hsh1 hsh2 hsh3 c0 c1 c2 c3 c4 c5 c6 c7 b0 b1 b3 p0 p2 HMD;go_wp2_with fail;go_loopw [44] (fun z wr=>∃k:Nat,k<=OL/\z=.int .i64 k/\Hid (Below D w wr)/\Hid (∀j,w.heap.size<=j->j<wc.heap.size->wr.heap[j]? = wc.heap[j]?)/\Hid (∃Ok dk sk,RunM G wr D r Ok dk/\dk.M=d.M.setP i ⟨p.got,p.pos,F7 p.out GM k,p.rd,p.ov⟩/\dk.vP=d.vP/\dk.P[i]? = some sk/\sk.ov=s.ov/\sk.gv=s.gv/\(∀j,j<wc.heap.size->Ok j=O j)/\wc.heap.size<=wr.heap.size)) (fun z _=>OL-(intOf z).toNat)
  case atStart=>refine⟨0,Nat.zero_le _,rfl,(show Below D w wc from HM3.out.mono HH.out.le),(show ∀j,w.heap.size<=j->j<wc.heap.size->wc.heap[j]? = wc.heap[j]? from fun _ _ _=>rfl),(show ∃Ok dk sk,_ from ⟨O,d,s,HR2.out,?_,rfl,HSl.out,rfl,rfl,fun _ _=>rfl,Nat.le_refl _⟩)⟩;rw[by0];exact (ax8 HP.out).symm
  case round=>
   obtain⟨k,hk,rfl,Aa,Bn,hdk⟩:=hrel;obtain⟨Ok,dk,sk,hR,eM,eP,eS,eo,eg,hOk,hsz⟩:=hdk.out;have hpk:dk.M.ps[i]? = some ⟨p.got,p.pos,F7 p.out GM k,p.rd,p.ov⟩:=by rw[eM];exact x8 HP.out
   have hlen:dk.M.ps.length=d.M.ps.length:=by rw[eM];simp[SMach.setP]
   have HR:=qH hR;have HMk:=qH eM;have Zt:Hid (dk.vP=.slice (some ⟨gP,0,none⟩) dk.M.ps.length cP):=(show _=_ by rw[eP,hlen];exact HVP.out);have HSk:=qH eS;have HPk:=qH hpk;have Vp:Hid (sk.ov=.slice ao (F7 p.out GM k).length co):=(show _=_ by rw[eo,aV8 HGL.out];exact HOV.out);have HEQ:Hid (dk.vP=d.vP/\sk.ov=s.ov/\sk.gv=s.gv):=⟨eP,eo,eg⟩;have HOK:=qH hOk;have HSZ:=qH hsz;obtain⟨gP',cP',s',Gm,_,_,_,Zu,hs',q0,q1,q2,q3,q4,hfPk,_⟩:=RMem.procAt hR hpk;rw[Zt.out] at Gm;injection Gm with e1 e2 e3;injection e1 with e1;injection e1 with e1;subst e1 e3;rw[HSk.out] at hs';injection hs' with hs';subst hs';have La:=qH Zu;rw[Vp.out,aV8 HGL.out,<- HOL.out] at q2;rw[HEQ.out.2.2,HGV.out] at q0;clear hdk hR eM eP eS eo eg hOk hsz hpk hlen Zu e2 q1;by_cases hlt:k<OL
   .
    obtain⟨b,hb⟩:∃b,p.out[k]? = some b:=⟨_,gEl (by have:=HOL.out;omega)⟩;obtain⟨c,hc⟩:∃c,GM[k]? = some c:=⟨_,gEl (by have:=HOL.out;have:=HGL.out;omega)⟩;have hbk:(F7 p.out GM k)[k]? = some b:=by rw[bW5 HGL.out (Nat.le_refl _)];exact hb
    obtain⟨gm,au,cu,eA,hmc,hmr⟩:=bM5 HM1.out HM2.out Bn.out hc;subst eA;have hRd:=RMem.below HR.out ((Below.refl _ wr).drew);obtain⟨gO,cO,a,eO,_,_,hgO,hOO,ha,hSa,hcO,hfO⟩:=RMem.outAt hRd HPk.out HSk.out hbk;rw[Vp.out] at eO;injection eO with eO1 eO2 eO3;subst eO1 eO3;obtain⟨s',w',O',Ao,hR',hSo,hTo,Iq⟩:=RMem.appendOut hRd HPk.out HSk.out hbk ha (hmr.below ((Below.refl _ wr).drew)) (by have:=HSM.out b (mGt hb);have:=HGB.out c (mGt hc);omega) 28;have Vq:O' gO=some (.outs i):=(Iq gO hgO).trans hOO;have Oa:gP<wr.heap.size:=(HR.out.lo _ _ La.out).2;have hcP':w'.cell? ⟨gP,i*5+2,none⟩=some (.slice (some ⟨gO,0,none⟩) OL co):=by have:=hTo.block gP Oa (by rw[La.out];exact fun e=>by cases e);simp only[World.cell?] at q2 ⊢;rw[this];exact q2
    have Kt:w'.cell? ⟨gO,k,none⟩=some (sl b a):=by have:=hTo.block gO hgO (by rw[hOO];exact fun e=>by cases e);simp only[World.cell?] at hcO ⊢;rw[this];exact hcO
    have hfO':w'.frozen? ⟨gO,k,none⟩=false:=by have:=hTo.block gO hgO (by rw[hOO];exact fun e=>by cases e);have h2:=hfO k;simp only[World.frozen?] at h2 ⊢;rw[this];exact h2
    have Df:Below D w (w'.setCell ⟨gO,k,none⟩ (sl (b++c) s'))/\(∀j,w.heap.size<=j->j<wc.heap.size->(w'.setCell ⟨gO,k,none⟩ (sl (b++c) s')).heap[j]? = wc.heap[j]?) /\ ∃Ok dk sk,RunM G (w'.setCell ⟨gO,k,none⟩ (sl (b++c) s')) D r Ok dk/\dk.M=d.M.setP i ⟨p.got,p.pos,F7 p.out GM (k+1),p.rd,p.ov⟩/\dk.vP=d.vP/\dk.P[i]? = some sk/\sk.ov=s.ov/\sk.gv=s.gv/\(∀j,j<wc.heap.size->Ok j=O j)/\wc.heap.size<=(w'.setCell ⟨gO,k,none⟩ (sl (b++c) s')).heap.size:=by
     have Bm:=RMem.setOut hR' HPk.out HSk.out hbk Vp.out Vq hSo;have hDO:D<=gO:=(hR'.lo _ _ Vq).1;have hbD:Below D wr w':=((Below.refl D wr).drew).trans (hTo.below hRd);refine⟨(Aa.out.trans hbD).setCell hDO _,fun j hj1 hj2=>?_,O',dk.setProc i ((⟨p.got,p.pos,F7 p.out GM k,p.rd,p.ov⟩:SProc).setOut k (b++c)) (sk.outSet k s'),sk.outSet k s',Bm,?_,HEQ.out.1,x8 HSk.out,HEQ.out.2.1,HEQ.out.2.2,fun j hj=>?_,?_⟩
     . have Sv:=HLO.out j hj1;have hne:j≠gO:=fun e=>by rw[<- e,HOK.out j hj2,Sv] at hOO;cases hOO
       rw[Below.heap_setCell _ _ _ _ hne,hTo.block j (by have:=HSZ.out;show j<wr.heap.size;omega) (by rw[HOK.out j hj2,Sv];simp)];exact Bn.out j hj1 hj2
     . show dk.M.setP i _=_;rw[HMk.out];unfold SMach.setP SProc.setOut;simp only[List.set_set];rw[by1 HGL.out hb hc]
     . rw[Iq j (by have:=HSZ.out;show j<wr.heap.size;omega)];exact HOK.out j hj
     . have h1:=hTo.size;have h2:wr.drew.heap.size=wr.heap.size:=rfl;have h3:=HSZ.out;simp only[World.size_setCell];omega
    have Am:Hid _:=Df;have Ak:Hid _:=Ao;unfold sl at hcO Kt Ak;obtain⟨aa,ca⟩:=a;obtain⟨as',cs'⟩:=s';simp only at hcO Kt Ak;have hcO9:wr.cell? ⟨gO,k,none⟩=some (.slice aa b.length ca):=hcO;have hbl:=E8 hSa.reads;unfold sl at Am;simp only at Am;generalize b.length=BL at *;generalize c.length=CL at *;generalize (b++c).length=BCL at *;clear Df hR' hSo hTo Iq hOO Vq hRd hSa ha Ao hmr hbk hb hc hcO hfO Bn;go_upto_region 8 with fail;go_region_law (refine ah5 rfl (.tmp 60) (.tmp 61) 28 rfl (.slice aa BL ca) (.slice au CL cu) (by simp[Act.eval]) (by simp[Act.eval]) Ak.out ?_)
    all_goals go_wp2_with fail
    all_goals go_roundw
    all_goals first
     | exact⟨k+1,by omega,by go_num,Am.out.1,Am.out.2.1,Am.out.2.2⟩
     | (simp[intOf];omega)
   .
    have hkO:k=p.out.length:=by have:=HOL.out;omega
    obtain⟨w',s',Ao,hR',e1,e2,e3,hTo⟩:=RMem.clearGot HR.out HPk.out HSk.out 0;have hp':(dk.setProc i ⟨(⟨p.got,p.pos,F7 p.out GM k,p.rd,p.ov⟩:SProc).got.map (fun _=>[]),p.pos,F7 p.out GM k,p.rd,p.ov⟩ s').M.ps[i]? = some ⟨p.got.map (fun _=>[]),p.pos,F7 p.out GM k,p.rd,p.ov⟩:=x8 HPk.out;have hs':(dk.setProc i ⟨(⟨p.got,p.pos,F7 p.out GM k,p.rd,p.ov⟩:SProc).got.map (fun _=>[]),p.pos,F7 p.out GM k,p.rd,p.ov⟩ s').P[i]? = some s':=x8 HSk.out;have hlen:(dk.setProc i ⟨(⟨p.got,p.pos,F7 p.out GM k,p.rd,p.ov⟩:SProc).got.map (fun _=>[]),p.pos,F7 p.out GM k,p.rd,p.ov⟩ s').M.ps.length=dk.M.ps.length:=by simp[RD.setProc,SMach.setP]
    have hv':(dk.setProc i ⟨(⟨p.got,p.pos,F7 p.out GM k,p.rd,p.ov⟩:SProc).got.map (fun _=>[]),p.pos,F7 p.out GM k,p.rd,p.ov⟩ s').vP=.slice (some ⟨gP,0,none⟩) (dk.setProc i ⟨(⟨p.got,p.pos,F7 p.out GM k,p.rd,p.ov⟩:SProc).got.map (fun _=>[]),p.pos,F7 p.out GM k,p.rd,p.ov⟩ s').M.ps.length cP:=by rw[hlen];exact Zt.out
    have Bm:=RMem.setNum (p':=⟨p.got.map (fun _=>[]),p.pos,F7 p.out GM k,true,p.ov⟩) (u:=.bool true) (k:=3) hR' hp' hs' hv' La.out (by omega) rfl rfl rfl;have Oa:gP<wr.heap.size:=(HR.out.lo _ _ La.out).2;have hblk:=hTo.block gP Oa (by rw[La.out];exact fun e=>by cases e);have hc3':w'.cell? ⟨gP,i*5+3,none⟩=some (.bool p.rd):=by simp only[World.cell?] at q3 ⊢;rw[hblk];exact q3
    have hf3':w'.frozen? ⟨gP,i*5+3,none⟩=false:=by have h2:=hfPk (i*5+3);simp only[World.frozen?] at h2 ⊢;rw[hblk];exact h2
    have Df:l6 G (w'.setCell ⟨gP,i*5+3,none⟩ (.bool true)) D r (d.M.setP i (D6 n d.M.fs p))/\Below D w (w'.setCell ⟨gP,i*5+3,none⟩ (.bool true)):=by refine⟨⟨Ok,(dk.setProc i ⟨p.got.map (fun _=>[]),p.pos,F7 p.out GM k,p.rd,p.ov⟩ s').setProc i ⟨p.got.map (fun _=>[]),p.pos,F7 p.out GM k,true,p.ov⟩ s',Bm,?_⟩,(Aa.out.trans (Touch.below HR.out hTo)).setCell (HR.out.lo _ _ La.out).1 _⟩;show (dk.M.setP i _).setP i _=_;rw[HMk.out,hkO];unfold SMach.setP D6;simp only[List.set_set];rw[bH6 HGL.out,HG.out]
    have Am:Hid _:=Df;have Ak:Hid _:=Ao;rw[HEQ.out.2.2,HGV.out] at Ak;clear Df hR' hp' hs' hlen hv' Bm hTo hblk e1 e2 e3 Ao Bn;go_wp2_with (refine aD5 _ rfl _ 74 rfl _ rfl Ak.out ?_)
    go_ret;exact⟨rfl,Am.out⟩
end Go.Proofs.YtllgglolcgdehaaGreatDoor
namespace Go.Proofs.YtllgglolcgdehaaGreatDoor
open Go.RowKit Go.Gs Go.Maps
set_option linter.unusedVariables false
theorem cj7 (v:Value) (w:World):Calls Tryz.prog 267 #[v] w fun e w'=>e=.returned (.tuple #[v,.int .i64 0])/\Bq w w':=by go_enter Tryz.func267,Tryz.ntmps267;go_wp2_with fail;go_ret2;exact⟨rfl,Below.refl _ _⟩
theorem by2 (w:World):j9 w (.slice none 0 0) []:=⟨none,0,rfl,Nat.le_refl _,by simp[maxLen],fun h=>absurd rfl h⟩
theorem bW6 {w:World} {b:Nat} {a:Option Addr} {cap:Nat} {bs:List UInt8} {t:TypeId} (hx:w.heap[b]? = some (.cells #[.slice a bs.length cap] t (0,0))) (hr:Reads w (.slice a bs.length cap) bs.length (bs.map U)):RList w (.slice (some ⟨b,0,none⟩) 1 1) U [bs]:=by
 refine⟨[.slice a bs.length cap],⟨rfl,_,1,rfl,Nat.le_refl _,by simp[maxLen],fun _=>⟨b,0,rfl,fun j u hu=>?_⟩⟩,fun j p hj=>?_⟩
 .
  cases j with
  | zero=>
   simp at hu
   subst hu
   rw[cell_of_row _ _ _ _ _ _ hx]
   rfl
  | succ j=>simp at hu
 .
  cases j with
  | zero=>
   simp at hj
   subst hj
   exact⟨_,rfl,hr⟩
  | succ j=>simp at hj
theorem cj8 (n:SNode) (ai a:Option Addr) (ci cap bx:Nat) (bs:List UInt8) (w:World) (Ar:l7 n=0) (h3:n.kind=3) (Ad:M4 n) (hbx:w.heap[bx]? = some (.cells #[.int .i64 n.kind,.string ⟨n.file.toArray⟩,.int .i64 n.c.kind,.string ⟨n.c.word.toArray⟩,.int .i64 n.c.n,.int .i64 n.how,.int .i64 n.wide,.slice ai n.ins.length ci] 73 (0,0)))
 (hr:Reads w (.slice a bs.length cap) bs.length (bs.map U)) (hl:bs.length<=241200) (hE:t8 w) :
 Calls Tryz.prog 268 #[.slice a bs.length cap,.pointer (some ⟨bx,0,none⟩)] w fun e w'=>∃au cu,e=.returned (.tuple #[.slice au (ended (made n.c (lines bs))).length cu,.int .i64 0])/\Reads w' (.slice au (ended (made n.c (lines bs))).length cu) (ended (made n.c (lines bs))).length ((ended (made n.c (lines bs))).map U)/\Bq w w':=by
 have h1:n.ins.length=1:=(y9 Ar).2 (.inr (.inl h3));have hm3:=aV3 h3 [] [bs];simp only[List.head?_cons,Option.getD_some] at hm3;have HB1:Hid _:=boxE (w:=w) (o:=.cells #[.slice a bs.length cap] 28);have HMD:Hid _:=bx6 n ai none ci 0 [] (.slice (some ⟨w.heap.size,0,none⟩) 1 1) [bs] (w.alloc (.cells #[.slice a bs.length cap] 28)) Ar Ad (bW6 (heap_alloc_new w _) (hr.below boxE)) (by rw[h1];rfl) (by simpa using hl) (by2 _) (by decide) (hE.below boxE);rw[hm3] at HMD;have hc:=Y4 hbx;obtain⟨G,hG⟩:=qE (ended (made n.c (lines bs)));rw[<- hG] at HMD ⊢;unfold D2 at HMD;generalize (⟨n.file.toArray⟩:ByteArray)=fx at *;generalize (⟨n.c.word.toArray⟩:ByteArray)=wx0 at *;generalize n.c.kind=ck at *;generalize n.c.n=cn' at *;generalize n.how=hw at *;generalize n.wide=wd at *;generalize n.kind=nk at *;generalize n.ins.length=IL at *;generalize bs.length=BL at *
 obtain⟨c0,c1,c2,c3,c4,c5,c6,c7⟩:=hc;have hbl:bx<w.heap.size:=bLt w _ c0;clear hbx hr hE hG hm3 Ad Ar h1 h3;go_enter Tryz.func268,Tryz.ntmps268;go_wp2_with fail;refine Calls.mono HMD.out ?_;rintro e w2 ⟨ar,cr,us,rfl,m1,m2,m3⟩;obtain⟨g,au,cu,eA,hmc,hmr⟩:=bM5 m1 m2 (wr:=w2) (fun _ _ _=>rfl) (k:=0) (b:=G) rfl;subst eA;obtain⟨⟨_,_,hsh,Qo,Nz⟩,_⟩:=j8 m1;injection hsh with hs1 hs2 hs3;obtain⟨GL,hGL⟩:=qE G.length;have HGL:=qH hGL;rw[<- hGL] at hmc hmr;have HRd:=qH hmr;have HB2:Hid (Bq w w2):=HB1.out.trans (m3.mono HB1.out.size);have hcr:1<=cr:=by simp only[List.length_cons,List.length_nil] at Qo;omega
 have hcr':cr<=9223372036854775807:=by unfold maxLen at Nz;omega
 simp only[List.length_cons,List.length_nil,Nat.zero_add];clear hGL m1 m2 m3 hmr HMD Qo Nz hs1 hs2 hs3 c0 c1 c2 c3 c4 c5 c6 c7;go_wp2_with fail;go_ret2;exact⟨au,cu,by rw[<- HGL.out];rfl,by rw[<- HGL.out];exact HRd.out,HB2.out⟩
end Go.Proofs.YtllgglolcgdehaaGreatDoor
namespace Go.Proofs.YtllgglolcgdehaaGreatDoor
open Go.RowKit Go.Gs Go.Maps
set_option linter.unusedVariables false
variable {G:World->(Nat->Option Own)->Prop}
theorem bH7 (D r:Nat) (O:Nat->Option Own) (d:RD) (i q:Nat) (n:SNode) (p:SProc) (x:SPipe) (w:World) (h:RunM G w D r O d) (hS:Shape d.M) (hn:d.M.ns[i]? = some n) (hp:d.M.ps[i]? = some p) (hq:q=b7 d.M.ns i+p.pos.toNat) (hx:d.M.pipes[q]? = some x) (Ad:M4 n) (hT:p.got.flatten.length<=241200) (hsm:∀b∈p.out,b.length<=100000000) (hE:∀W,Below D w W->t8 W) :
 Calls Tryz.prog 237 #[.pointer (some ⟨r,0,none⟩),.int .i64 i] w fun e w'=>e=.returned (.int .i64 0)/\l6 G w' D r ((d.M.setX q ⟨[],x.room,x.closed,true⟩).setP i (D6 n d.M.fs p))/\Below D w w':=by
 have hF:=hS.proc i n p hn hp;obtain⟨gP,cP,s,hvP,Dy,Fb,hgP,hOP,hs,p0,p1,p2,p3,p4,hfP,hGo,hOo,hgl,hol⟩:=h.procAt hp;obtain⟨gX,cX,hvX,Hn,Fo,hOX⟩:=h.formX (Shape.pipes0 hS);obtain⟨t,ht,hRt,x0,x1,x2,x3,hfX,_,hgX⟩:=RMem.atX h hvX hx;obtain⟨gI,cI,hvI,Zv,hcI2,i0⟩:=h.firstAt hn;have hil:i<d.M.ps.length:=(gSm hp).1;have hql:q<d.M.pipes.length:=(gSm hx).1;obtain⟨b0,b1,b2,b3,b4,b5,b6⟩:=O5 h.box.1;rw[hvP] at b3;rw[hvX] at b2;rw[hvI] at b5;have Gv:=hF.pos0;have Lo:=hF.pos1;have hck:pchk x=0:=hS.pipe x (mGt hx);have hsh:=fun (W:World)=>co9 t.1 t.2 x W (by have:=(E8 hRt.1).1;exact this);rw[bq0 hck] at hsh;have HSH:Hid _:=hsh;have hi5:n.ins.length<=5:=(y9 (hS.g.node n (mGt hn))).1;have Zw:d.M.pipes.length<=300:=by
  rw[hS.xlen];have:∀(l:List SNode),(∀m∈l,m.ins.length<=5)->(j7 l).length<=5*l.length:=by
   intro l
   induction l with
   | nil=>intro _;simp[j7]
   | cons m l ih=>
    intro hm
    have h1:=ih (fun m' hm'=>hm m' (by simp[hm']))
    have h2:=hm m (by simp)
    simp only[j7,List.map_cons,List.flatten_cons,List.length_append,List.length_cons] at *
    omega
  have h1:=this d.M.ns (fun m hm=>(y9 (hS.g.node m hm)).1);have:=hS.g.le60;omega
 have hFL:∀W,Bq w W->True:=fun _ _=>trivial;have HH:=qH h;have HX:=qH hx;have HVX:=qH hvX;have HOX:=qH hOX
 have Gz:Hid (∀(W:World) (O':Nat->Option Own) (d':RD),RunM G W D r O' d'->d'.M=d.M.setX q ⟨[],x.room,x.closed,true⟩->Below D w W->Calls Tryz.prog 120 #[.pointer (some ⟨r,0,none⟩),.int .i64 i] W fun e w'=>e=.returned (.int .i64 0)/\l6 G w' D r ((d.M.setX q ⟨[],x.room,x.closed,true⟩).setP i (D6 n d.M.fs p))/\Below D W w'):=(show ∀(W:World) (O':Nat->Option Own) (d':RD),RunM G W D r O' d'->d'.M=d.M.setX q ⟨[],x.room,x.closed,true⟩->Below D w W->Calls Tryz.prog 120 #[.pointer (some ⟨r,0,none⟩),.int .i64 i] W fun e w'=>e=.returned (.int .i64 0)/\l6 G w' D r ((d.M.setX q ⟨[],x.room,x.closed,true⟩).setP i (D6 n d.M.fs p))/\Below D W w' from fun W O' d' hR' hM' hB'=>by
  have hg2:pchk ⟨[],x.room,x.closed,true⟩=0:=by
   have hxg:=V3 hck
   refine J9 hxg.1 hxg.2.1 ?_ (fun _=>rfl)
   show ((0:Nat):Int)<=plim x.room
   have:=hxg.2.2.1
   omega
  have hS':Shape d'.M:=by
   rw[hM']
   refine⟨hS.gok,hS.fok,hS.plen,by simpa[SMach.setX] using hS.xlen,hS.proc,fun y hy=>?_⟩
   rcases aO7 hy with rfl | hy
   . exact hg2
   . exact hS.pipe y hy
  have h1:d'.M.ns=d.M.ns:=by rw[hM'];rfl
  have h2:d'.M.ps=d.M.ps:=by rw[hM'];rfl
  have h3:d'.M.fs=d.M.fs:=by rw[hM'];rfl
  have:=aV9 D r O' d' i n p W hR' hS'.toG (by rw[h1];exact hn) (by rw[h2];exact hp) Ad hT hsm (fun V hV=>hE V (hB'.trans hV)) hF.olen hF.glen
  rw[h3,hM'] at this
  exact this)
 obtain⟨m,hm⟩:∃m:Nat,p.pos=(m:Int):=Int.eq_ofNat_of_zero_le Gv;have hqm:q=b7 d.M.ns i+m:=by rw[hq,hm];simp
 have hqi:IntKind.i64.wrap ((b7 d.M.ns i:Int)+(m:Int))=(q:Int):=by rw[IntKind.wrap_i64,hqm];omega
 rw[hm] at p1;have hfx0:=hfX (q*4);have hfx1:=hfX (q*4+1);have Zq:=hfX (q*4+2);have hfx3:=hfX (q*4+3);unfold ab9 at HSH;unfold sl at x0;obtain⟨ta,tc⟩:=t;simp only at x0 HSH;have hin:i<d.M.ns.length:=(gSm hn).1;have Zx:b7 d.M.ns i<=300:=by omega
 generalize d.M.ps.length=NP at *;generalize d.M.ns.length=NN at *;generalize hFI:b7 d.M.ns i=FI at *;clear h hS hn hp hs hvP hvX hvI hx hq Ad hT hsm hE hF hOP hfP hGo hOo hgl hol hRt ht hOX hfX hck hsh p0 p2 p3 p4 b0 b1 b4 b6 hFL Gv Lo hm hqm hFI hi5;go_enter Tryz.func237,Tryz.ntmps237;go_wp2_with fail;go_quiet (fail);go_wp2_with fail;refine Calls.mono (HSH.out _) ?_;rintro e w2 ⟨rfl,hb2⟩;have Ft:Bq w w2:=(ak5 (n:=nq)).trans hb2;have hR2:=RMem.below HH.out Ft;obtain⟨W3,hW3⟩:=qE (w2.alloc (.cells #[.slice none 0 0,.int .i64 x.room,.bool x.closed,.bool true] 66));have Fv:Bq w2 W3:=by rw[hW3];exact boxE
 have hR3:=RMem.below hR2 Fv;have Bc:W3.heap[w2.heap.size]? = some (.cells #[.slice none 0 0,.int .i64 x.room,.bool x.closed,.bool true] 66 (0,0)):=by rw[hW3];exact heap_alloc_new _ _
 obtain⟨t3,ht3,_,y0,y1,y2,y3,gfX,gOX,gX3⟩:=RMem.atX hR3 HVX.out HX.out;obtain⟨m0,m1,m2,m3⟩:=E7 Bc;have Bm:=RMem.setPipe hR3 (x':=⟨[],x.room,x.closed,true⟩) (s':=nilS) HX.out HVX.out gOX (ROf.nil _ _ _);have hDX:D<=gX:=(hR3.lo _ _ gOX).1
 have hBD:Below D w ((((W3.setCell ⟨gX,q*4,none⟩ (.slice none 0 0)).setCell ⟨gX,q*4+1,none⟩ (.int .i64 x.room)).setCell ⟨gX,q*4+2,none⟩ (.bool x.closed)).setCell ⟨gX,q*4+3,none⟩ (.bool true)):=
  (((((Ft.mono HH.out.le).trans (Fv.mono hR2.le)).setCell hDX _).setCell hDX _).setCell hDX _).setCell hDX _
 have HBD:Hid _:=hBD;have Sz:Hid _:=Gz.out ((((W3.setCell ⟨gX,q*4,none⟩ (.slice none 0 0)).setCell ⟨gX,q*4+1,none⟩ (.int .i64 x.room)).setCell ⟨gX,q*4+2,none⟩ (.bool x.closed)).setCell ⟨gX,q*4+3,none⟩ (.bool true)) O (d.setPipe q ⟨[],x.room,x.closed,true⟩ nilS) Bm rfl hBD;have fX0:=gfX (q*4);have fX1:=gfX (q*4+1);have fX2:=gfX (q*4+2);have fX3:=gfX (q*4+3);unfold sl at y0;generalize ht3l:t3.1=ta3 at *;generalize x.b.length=XL at *;generalize x.shut=xs at *;clear hR2 hR3 Bm hBD Ft hb2 Fv ht3 gfX gOX Bc HSH Gz p1 b2 b3 b5 x0 x1 x2 x3 hfx0 hfx1 Zq hfx3 i0 hqi;go_upto_region 5 with fail;rw[<- hW3];clear hW3;go_wp2_with fail;refine Calls.mono Sz.out ?_;rintro e w9 ⟨rfl,hr9,hb9⟩;have Am:Hid _:=And.intro hr9 (HBD.out.trans hb9);clear hr9 hb9 Sz;go_wp2_with fail;go_ret;exact⟨rfl,Am.out⟩
end Go.Proofs.YtllgglolcgdehaaGreatDoor
namespace Go.Proofs.YtllgglolcgdehaaGreatDoor
open Go.RowKit Go.Gs
set_option linter.unusedVariables false
theorem by3 (w:World):(binOp .neq 264 .nilFunc .nilFunc).run Tryz.prog w=.ok (.bool false) w:=by kernel_rfl
theorem cj9 (w:World) (f:Fn) (a b:Array Value):(binOp .neq 264 (.func f a b) .nilFunc).run Tryz.prog w=.ok (.bool true) w:=by
 first
 | kernel_rfl
 | rfl
 | simp[binOp,run_underlying Tryz.underlying264]
theorem bH8 {w:World} {a:Option Addr} {c k:Nat} {b:List UInt8} (h:Reads w (.slice a b.length c) b.length (b.map U)) (hk:k<=b.length):Reads w (.slice a (b.take k).length c) (b.take k).length ((b.take k).map U):=by
 obtain⟨h1,ao,cap,e,h2,h3,h4⟩:=h;injection e with e1 e2 e3;subst e1 e3;have hl:(b.take k).length=k:=by rw[List.length_take];omega
 refine⟨by simp,a,c,rfl,by omega,h3,fun hn=>?_⟩;obtain⟨bb,off,e4,hc⟩:=h4 (by omega);refine⟨bb,off,e4,fun j u hu=>hc j u ?_⟩;rw[List.map_take,List.getElem?_take] at hu;split at hu
 . exact hu
 . cases hu
end Go.Proofs.YtllgglolcgdehaaGreatDoor
namespace Go.Proofs.YtllgglolcgdehaaGreatDoor
open Go.RowKit Go.Gs Go.Maps
set_option linter.unusedVariables false
variable {G:World->(Nat->Option Own)->Prop}
theorem bW7 (D r:Nat) (O:Nat->Option Own) (d:RD) (i q m:Nat) (n:SNode) (p:SProc) (x:SPipe) (g:List UInt8) (w:World) (h:RunM G w D r O d) (hS:Shape d.M) (hn:d.M.ns[i]? = some n) (hp:d.M.ps[i]? = some p) (hm:p.pos=(m:Int)) (hgm:p.got[m]? = some g) (hg0:g≠[]) (hq:q=b7 d.M.ns i+m) (hx:d.M.pipes[q]? = some x) (Ad:M4 n) (hT:p.got.flatten.length<=241200) (hsm:∀b∈p.out,b.length<=90000000) (hsk:d.M.sunk.length<=90000000) (hE:∀W,Below D w W->t8 W) (hk5:n.kind=5) :
 Calls Tryz.prog 170 #[.pointer (some ⟨r,0,none⟩),.int .i64 i] w fun e w'=>e=.returned (.int .i64 0)/\l6 G w' D r (K9 d.M i n q p)/\Below D w w':=by
 have hF:=hS.proc i n p hn hp;have hch:=hS.g.node n (mGt hn);have hat:p.at=g:=by unfold SProc.at;rw[hm,Int.toNat_natCast,hgm];rfl
 have hml:m<p.got.length:=(gSm hgm).1;obtain⟨gP,cP,s,hvP,Dy,Fb,hgP,hOP,hs,p0,p1,p2,p3,p4,hfP,hGo,hOo,hgl,hol⟩:=h.procAt hp;obtain⟨gG,cG,a,hgv,Jk,Vr,hgG,hOG,ha,hSa,g0,hfG⟩:=RMem.gotAt h hp hs hgm;have hil:i<d.M.ps.length:=(gSm hp).1;obtain⟨b0,b1,b2,b3,b4,b5,b6⟩:=O5 h.box.1;obtain⟨hRN,hRF⟩:=h.nodes;obtain⟨an,cn,hvN,Jj,Ef⟩:=hRN.shape;rw[hvN] at hRN b0;rw[hvP] at b3;rw[hgv] at p0;rw[hm] at p1;obtain⟨nb,noff,ai,ci,rfl,hNA,HPo⟩:=hRN.at hn;obtain⟨c0,c1,c2,c3,c4,c5,c6,c7⟩:=hNA;have hin:i<d.M.ns.length:=(gSm hn).1;have Ny:cn<=9223372036854775807:=by unfold maxLen at Ef;exact Ef
 have Ir:=E8 hSa.reads;have HH:=qH h;have HS:=qH hS;have HN:=qH hn;have HP:=qH hp;have HSl:=qH hs;have HX:=qH hx;have HGM:=qH hgm;have HA:=qH ha;have HSA:=qH hSa;have HGV:=qH hgv;have HVP:=qH hvP;have HOG:=qH hOG;have HOP:=qH hOP;have HAT:=qH hat;have HM:=qH hm;have HG0:=qH hg0;have HCH:=qH hch;have Hv:=qH Ad;have HSM:=qH hsm;have HSK:=qH hsk;have HE:=qH hE;have HT:=qH hT;have HQ:=qH hq;have HF:=qH hF;obtain⟨NP,hNP⟩:=qE d.M.ps.length;obtain⟨NN,hNN⟩:=qE d.M.ns.length;obtain⟨GL,hGL⟩:=qE p.got.length;obtain⟨BL,hBL⟩:=qE g.length;have HBL:=qH hBL;have HGL:=qH hGL;obtain⟨NK,hNK⟩:=qE n.kind;obtain⟨CK,hCK⟩:=qE n.c.kind;obtain⟨CN,hCN⟩:=qE n.c.n;have HNK:=qH hNK;have HCK:=qH hCK;have HCN:=qH hCN;rw[<- hNP] at b3 hil Dy;rw[<- hNN] at b0 Jj hin;rw[<- hGL] at p0 Jk hml;unfold sl at g0;obtain⟨aa,ca⟩:=a;simp only at g0 Ir;rw[<- hBL] at g0 Ir;rw[<- hNK] at c0;rw[<- hCK] at c2
 rw[<- hCN] at c4;obtain⟨fx,hfx⟩:=qE ((⟨n.file.toArray⟩:ByteArray));obtain⟨wx0,hwx⟩:=qE ((⟨n.c.word.toArray⟩:ByteArray));obtain⟨hw,hhw⟩:=qE n.how;obtain⟨wd,hwd⟩:=qE n.wide;obtain⟨IL,hIL⟩:=qE n.ins.length;have HV:Hid (fx=(⟨n.file.toArray⟩:ByteArray)/\wx0=(⟨n.c.word.toArray⟩:ByteArray)/\hw=n.how/\wd=n.wide/\IL=n.ins.length):=⟨hfx,hwx,hhw,hwd,hIL⟩;rw[<- hfx] at c1;rw[<- hwx] at c3;rw[<- hhw] at c5;rw[<- hwd] at c6;rw[<- hIL] at c7;clear h hS hn hp hs hx hgm ha hSa hgv hvP hOG hOP hat hm hg0 hch Ad hsm hsk hE hT hq hF hNP hNN hGL hBL hNK hCK hCN hfx hwx hhw hwd hIL hRN hRF hvN HPo hGo hOo hgl hol Ef b1 b2 b4 b5 b6 p2 p3 p4 hfP;have fb0:=fun o=>((boxE (w:=w) (o:=o)).cell (bLt w _ b0)).trans b0;have fb3:=fun o=>((boxE (w:=w) (o:=o)).cell (bLt w _ b3)).trans b3;have fc0:=fun o=>((boxE (w:=w) (o:=o)).cell (bLt w _ c0)).trans c0
 have fc1:=fun o=>((boxE (w:=w) (o:=o)).cell (bLt w _ c1)).trans c1;have fc2:=fun o=>((boxE (w:=w) (o:=o)).cell (bLt w _ c2)).trans c2;have fc3:=fun o=>((boxE (w:=w) (o:=o)).cell (bLt w _ c3)).trans c3;have fc4:=fun o=>((boxE (w:=w) (o:=o)).cell (bLt w _ c4)).trans c4;have fc5:=fun o=>((boxE (w:=w) (o:=o)).cell (bLt w _ c5)).trans c5;have fc6:=fun o=>((boxE (w:=w) (o:=o)).cell (bLt w _ c6)).trans c6;have fc7:=fun o=>((boxE (w:=w) (o:=o)).cell (bLt w _ c7)).trans c7;have hrl:r<w.heap.size:=bLt w _ b0;have Zy:nb<w.heap.size:=bLt w _ c0;go_enter Tryz.func170,Tryz.ntmps170;go_upto_region 1 with fail;go_region
 obtain⟨W1,hW1⟩:=qE ((w.alloc (.cells #[.int .i64 NK,.string fx,.int .i64 CK,.string wx0,.int .i64 CN,.int .i64 hw,.int .i64 wd,.slice ai IL ci] 73)).drew);have hb1:Bq w W1:=by rw[hW1];exact boxE.drew
 have hbx:W1.heap[w.heap.size]? = some (.cells #[.int .i64 NK,.string fx,.int .i64 CK,.string wx0,.int .i64 CN,.int .i64 hw,.int .i64 wd,.slice ai IL ci] 73 (0,0)):=by rw[hW1];exact heap_alloc_new _ _
 have p0':=(hb1.cell (bLt w _ p0)).trans p0;have p1':=(hb1.cell (bLt w _ p1)).trans p1;have g0':=(hb1.cell (bLt w _ g0)).trans g0;rw[<- hW1];clear hW1 fb0 fb3 fc0 fc1 fc2 fc3 fc4 fc5 fc6 fc7 b0 b3 c0 c1 c2 c3 c4 c5 c6 c7 p0 p1 g0;go_wp2_with fail;go_quiet (fail);have hb2:Bq w (W1.drewN nq):=hb1.trans ak5;have Ep:(W1.drewN nq).heap[w.heap.size]? = some (.cells #[.int .i64 NK,.string fx,.int .i64 CK,.string wx0,.int .i64 CN,.int .i64 hw,.int .i64 wd,.slice ai IL ci] 73 (0,0)):=hbx;have HB2:=qH hb2;have Dz:Hid _:=Ep;clear hbx hb1 hb2 p0' p1' g0';generalize (W1.drewN nq)=W2 at *;obtain⟨c0,c1,c2,c3,c4,c5,c6,c7⟩:=Y4 Ep;clear Ep;have hR2:=RMem.below HH.out HB2.out;have HR2:=qH hR2;have Lx:Hid (SOf W2 O (.got i m) (aa,ca) g):=hR2.part (.got i m) p s g (aa,ca) HP.out HSl.out HGM.out HA.out;have Ob:Hid (Below D w W2):=HB2.out.mono HH.out.le;clear hR2
 have h5:NK=5:=HNK.out.trans hk5;clear hk5;subst h5;have HC:Hid (K9 d.M i n q p=⟨d.M.ns,d.M.fs,d.M.pipes,d.M.ps.set i (p.setGot []),d.M.sunk++g⟩):=(show _=_ by unfold K9;rw[if_pos HNK.out.symm,HAT.out]);obtain⟨s',w',O',Ao,hR',hSo,hTo,Iq⟩:=RMem.appendSunk HR2.out Lx.out.reads (by have:=HSK.out;have h2:=L9 (mGt HGM.out);have:=HT.out;omega) 28;have Bm:=RMem.setSunk hR' hSo;obtain⟨z0,z1,z2,z3,z4,z5,z6⟩:=O5 HR2.out.box.1;obtain⟨y0,y1,y2,y3,y4,y5,y6⟩:=O5 hR'.box.1;have hfr:w'.frozen? ⟨r,4,none⟩=false:=frozen_of_row _ _ _ _ _ hR'.box.1;obtain⟨W3,hW3⟩:=qE (w'.setCell ⟨r,4,none⟩ (sl (d.M.sunk++g) s'));rw[<- hW3] at Bm;have hB3:Below D w W3:=by rw[hW3];exact (Ob.out.trans (hTo.below HR2.out)).setCell (hR'.lo _ _ hR'.box.2).1 _
 have HB3:=qH hB3;have Zz:Hid _:=Bm;obtain⟨gP3,cP3,s3,hvP3,_,_,_,hOP3,hs3,q0,q1,_⟩:=RMem.procAt Bm HP.out;rw[show (d.setSunk (d.M.sunk++g) s').vP=d.vP from rfl,HVP.out] at hvP3;injection hvP3 with e1 e2 e3;injection e1 with e1;injection e1 with e1;subst e1;rw[show (d.setSunk (d.M.sunk++g) s').P=d.P from rfl,HSl.out] at hs3;injection hs3 with hs3;subst hs3;obtain⟨gG3,cG3,a3,hgv3,_,_,hgG3,Vs,ha3,hSa3,u0,hfG3⟩:=RMem.gotAt Bm HP.out HSl.out HGM.out;rw[HGV.out] at hgv3 q0;injection hgv3 with e4 e5 e6;injection e4 with e4;injection e4 with e4;subst e4;have Ta:=RMem.setGot Bm HP.out HSl.out HGM.out HGV.out Vs (SOf.nil W3 O' (.got i m))
 have Df:l6 G (W3.setCell ⟨gG,m,none⟩ (.slice none 0 0)).drew D r (K9 d.M i n q p)/\Below D w (W3.setCell ⟨gG,m,none⟩ (.slice none 0 0)).drew:=by refine⟨l6.drew ⟨O',(d.setSunk (d.M.sunk++g) s').setProc i (SProc.gotSet p m []) (s.gotSet m nilS),Ta,?_⟩,(hB3.setCell (Bm.lo _ _ Vs).1 _).drew⟩;rw[HC.out];unfold RD.setProc RD.setSunk SMach.setP SProc.gotSet SProc.setGot;rw[HM.out,Int.toNat_natCast]
 have Am:Hid _:=Df;have Ak:Hid _:=Ao;have hfg:=hfG3 m;unfold sl at z4 y4 Ak hW3 u0;obtain⟨sa,sc⟩:=s';simp only at Ak hW3;rw[<- HBL.out] at Ak u0;have g2:W2.cell? ⟨gG,m,none⟩=some (.slice aa BL ca):=by obtain⟨gG4,cG4,a4,hgv4,_,_,_,_,ha4,_,u4,_⟩:=RMem.gotAt HR2.out HP.out HSl.out HGM.out;rw[HGV.out] at hgv4;injection hgv4 with e7;injection e7 with e7;injection e7 with e7;subst e7;rw[HA.out] at ha4;injection ha4 with ha4;subst ha4;unfold sl at u4;rw[<- HBL.out] at u4;exact u4
 rw[HM.out] at q1;rw[<- HGL.out] at q0;generalize (d.M.sunk++g).length=SGL at *;generalize d.M.sunk.length=SL at *;obtain⟨a3a,a3c⟩:=a3;simp only at u0;generalize d.sS.1=ssa at *;generalize d.sS.2=ssc at *;clear Df Bm Ta hB3 hR' hSo hTo Iq Ao hfG3 Vs hOP3 ha3 hSa3 e2 e3 e5 e6 z0 z1 z2 z3 z5 z6 y0 y1 y2 y3 y5 y6 HC;go_wp2_with (at_builtin;refine ab4 _ rfl (.tmp 46) (.tmp 47) 28 rfl _ _ rfl rfl Ak.out ?_)
 rw[<- hW3];clear hW3;go_region
 all_goals go_wp2_with fail
 all_goals go_ret
 all_goals exact⟨rfl,Am.out⟩
end Go.Proofs.YtllgglolcgdehaaGreatDoor
