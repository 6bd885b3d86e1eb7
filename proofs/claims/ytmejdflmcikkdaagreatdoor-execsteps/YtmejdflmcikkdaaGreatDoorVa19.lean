/- What the developers' full does, and more. -/
import Derived.Test.YtmejdflmcikkdaaGreatDoorVAb
import Derived.Test.YtmejdflmcikkdaaGreatDoorVa18
set_option linter.all false
set_option maxRecDepth 100000
set_option maxHeartbeats 64000000
namespace Go.Proofs.YtmejdflmcikkdaaGreatDoor
open Go.RowKit Go.Gs Go.Maps Tryz
variable {G:World->qW->Prop}
variable {out GM:qL}{b c:qU}{us:List Value}{p:SProc}
def D3(out GM:qL)(k:Nat):qL:=List.zipWith (· ++ ·) (out.take k) (GM.take k)++out.drop k
theorem aF7(out GM:qL):D3 out GM 0=out:=by simp[D3]
theorem ad4(h:out.length=GM.length)(k:Nat):(D3 out GM k).length=out.length:=by unfold D3;rw[qI,xZ,qX,qX,qy];omega
theorem aY7(h:out.length=GM.length){k j:Nat}(hj:k<=j):(D3 out GM k)[j]?=out[j]?:=by
 unfold D3;by_cases hjl:j<out.length
 . rw[qu (by rw[xZ,qX,qX];omega),xZ,qX,qX,xu];congr 1;omega
 . rw[zN (by rw[qI,xZ,qX,qX,qy];omega),zN qO]
theorem aF8{k:Nat}(h:out.length=GM.length)(hb:out[k]?=some b)(hc:GM[k]?=some c):(D3 out GM k).set k (b++c)=D3 out GM (k+1):=by
 have hkl:k<out.length:=(gSm hb).1;have hkl2:k<GM.length:=(gSm hc).1;have hlen:(List.zipWith (· ++ ·) (out.take k) (GM.take k)).length=k:=by rw[xZ,qX,qX];omega
 unfold D3;rw[zG _ _ qO,hlen,xt];rw[qZ,qZ,hb,hc];have:out.drop k=b::out.drop (k+1):=by rw[qt hkl];rw[gEl hkl]at hb;injection hb with hb;rw[hb]
 rw[this,List.set_cons_zero];simp only[zO];rw[List.zipWith_append (by simp;omega)];simp
theorem aO9(h:out.length=GM.length):D3 out GM out.length=List.zipWith (· ++ ·) out GM:=by unfold D3;rw[qj,h,qj,qi qO,xz]
theorem bF8{w W wr:World}{ar:Option Addr}{cr:Nat}(h1:W.ownsRow w.heap.size 28 1 (.slice ar GM.length cr) GM.length us)(h2:∀(j:Nat) b,GM[j]?=some b->∃u,us[j]?=some u/\Reads W u b.length (b.map U)/\NewV w.heap.size u)
 (hk:∀j,w.heap.size<=j->j<W.heap.size->wr.heap[j]?=W.heap[j]?) {k:Nat} {b:qU} (hb:GM[k]?=some b):
 ∃g au cu,ar=some ⟨g,0,none⟩/\wr.cell? ⟨g,k,none⟩=some (.slice au b.length cu)/\Reads wr (.slice au b.length cu) b.length (b.map U):=by
 have hkl:k<GM.length:=(gSm hb).1;obtain⟨g,cap,e,hc1,hc2,hg,Ac,hf⟩:=(g8 h1).2 qO;injection e with e1 e2 e3;obtain⟨u,hu,hr,hn⟩:=h2 k b hb;obtain⟨q1,au,cu,rfl,q2,q3,q4⟩:=id hr;have hgw:w.heap.size<=g:=(h1.lt g (by rw[e1];rfl)).1;refine⟨g,au,cu,e1,?_,?_⟩
 . have:=Ac k qO;rw[hu]at this;rw[<- this];simp only[World.cell?];rw[hk g hgw hg]
 .
  by_cases h0:b.length=0
  . exact⟨q1,au,cu,rfl,q2,q3,fun hn=>absurd h0 hn⟩
  . obtain⟨bb,off,e4,hcc⟩:=q4 h0;have hbl:bb<W.heap.size:=bLt W _ (hcc 0 _ (gEl (by rw[q1];omega)));refine Q4 hr (fun a ha=>?_);rw[ha]at e4;injection e4 with e4;subst e4;exact hk bb (hn _ _ _ (by rw[ha])) hbl
theorem ar2{M:SMach}{i:Nat}(h:M.ps[i]?=some p):M.setP i ⟨p.got,p.pos,p.out,p.rd,p.ov⟩=M:=by
 unfold SMach.setP;have:M.ps.set i p=M.ps:=by
  apply xq;intro j;by_cases e:i=j
  . subst e;rw[j8 h,h]
  . rw[D6 e]
 show (⟨M.ns,M.fs,M.pipes,M.ps.set i p,M.sunk⟩:SMach)=M;rw[this]
structure ShapeG (M:SMach):Prop where
 gok:gchk M.ns=0
 fok:fchk M.fs=0
 plen:M.ps.length=M.ns.length
theorem ShapeG.g{M:SMach}(h:ShapeG M):RightG M.ns:=Q6 h.gok
theorem _root_.Go.Gs.Shape.toG{M:SMach}(h:Shape M):ShapeG M:=⟨h.gok,h.fok,h.plen⟩
theorem aP0(D r:Nat)(O:qW)(d:RD)(i:Nat)(n:SNode)(p:SProc)(w:World)(h:RunM G w D r O d)(hS:ShapeG d.M)(hn:d.M.ns[i]?=some n)(hp:d.M.ps[i]?=some p)(Ad:G8 n)(hT:p.got.flatten.length<=60300000)(hsm:∀b∈p.out,b.length<=1000000000)(hE:∀W,Below D w W->q8 W)(Vz:(p.out.length:Int)=nouts n)(Jf:p.got.length=n.ins.length):
 Calls prog 63 #[.pointer (some ⟨r,0,none⟩),.int .i64 i] w fun e w'=>e=.returned (.int .i64 0)/\o6 G w' D r (d.M.setP i (D2 n d.M.fs p))/\Below D w w':=by
 have hch:=hS.g.node n (mGt hn);obtain⟨gP,cP,s,hvP,Db,Dw,hgP,hOP,hs,p0,p1,p2,p3,p4,hfP,hGo,hOo,hgl,hol⟩:=h.procAt hp;obtain⟨⟨ao,co,hov,Ej,Bn⟩,_⟩:=g8 hOo;obtain⟨⟨ag,cg,hgv,Jx,Jy⟩,_⟩:=g8 hGo;have hil:i<d.M.ps.length:=(gSm hp).1;obtain⟨b0,b1,b2,b3,b4,b5,b6⟩:=K9 h.box.1;obtain⟨hRN,hRF⟩:=h.nodes;obtain⟨an,cn,hvN,Ih,Dz⟩:=hRN.shape;obtain⟨af,cf,hvF,Rn,Ro⟩:=hRF.shape;rw[hvN]at hRN b0;rw[hvF]at hRF b1;rw[hvP]at b3;obtain⟨nb,noff,ai,ci,rfl,hNA,HPo⟩:=hRN.at hn
 have hMD:∀W,Bq w W->Calls prog 95 #[x8 n ai n.ins.length ci,.slice af d.M.fs.length cf,s.gv] W fun e w'=>Q0 W (j6 n d.M.fs p.got) e w':=fun W hW=>
  bp4 n ai af ci cf d.M.fs s.gv p.got W hch Ad ((h.gots hp hs).below hW) Jf hT (hRF.below hW) hS.fok (hE W (hW.mono h.le))
 have hGl:p.out.length=(j6 n d.M.fs p.got).length:=by have:=Q5 hch d.M.fs p.got;omega
 have hGb:∀c∈j6 n d.M.fs p.got,c.length<=75000000:=by intro c hc;have:=aj2 hch d.M.fs (fun f hf=>(U2 (S7 hS.fok).2 f hf).2) p.got Jf qO;have:=A3 hc;omega
 obtain⟨c0,c1,c2,c3,c4,c5,c6,c7⟩:=hNA;rw[hgv]at p0 hMD;rw[hov]at p2;have HMD:Hid _:=hMD;obtain⟨GM,hG⟩:=qE (j6 n d.M.fs p.got);have HG:=qH hG;rw[<- hG]at HMD hGl hGb;have HGL:=qH hGl;have HGB:=qH hGb;have HSM:=qH hsm;have HH:Hid (RunM G w D r O d):=h;have HP:=qH hp;have HSl:=qH hs;have HVP:=qH hvP;have HOV:=qH hov;have HGV:=qH hgv;obtain⟨NP,hNP⟩:=qE d.M.ps.length;have HNP:=qH hNP;obtain⟨NN,hNN⟩:=qE d.M.ns.length;have hin:i<NN:=by rw[hNN,<- hS.plen];exact hil
 obtain⟨OL,hOL⟩:=qE p.out.length;have HOL:=qH hOL;rw[<- hNP]at b3 hil Db;rw[<- hNN]at b0 Ih;rw[<- hOL]at p2 Ej;have Oz:cn<=9223372036854775807:=by unfold maxLen at Dz;exact Dz
 unfold x8 at HMD;generalize (⟨n.file.toArray⟩:ByteArray)=fx,(⟨n.c.word.toArray⟩:ByteArray)=wx0,n.c.kind=ck,n.c.n=cn',n.how=hw,n.wide=wd,n.kind=nk,n.ins.length=IL,d.M.fs.length=NF,p.got.length=GL at *;clear h hS hn hp hs hvP hov hgv hsm hE Vz hGo hOo hgl hol hRN hRF hMD hG hGl hGb HPo hNP hNN hOL hvN hvF hch hT Ad Dz b2 b4 b5 b6 Jx Jy Rn Ro hOP hfP p1 p3 p4 Bn Jf;go_enter func63,ntmps63;go_upto_region 2 with fail;go_cut [6,7] (fun x y wx=>∃ar cr,x=.slice ar OL cr/\y=.int .i64 0/\Hid (∃us,wx.ownsRow w.heap.size 28 1 (.slice ar GM.length cr) GM.length us/\(∀(j:Nat) b,GM[j]?=some b->∃u,us[j]?=some u/\Reads wx u b.length (b.map U)/\NewV w.heap.size u)/\Bq w wx))
 case first=>
  go_region_with (go_at_call 95;refine qD (HMD.o _ (by first|exact Below.refl _ _ | exact (Below.refl _ w).drew)) ?_;rintro e w2 hM2;obtain⟨ar,cr,us,rfl,m1,m2,m3⟩:=hM2;have HU:Hid _:=And.intro m1 (And.intro m2 m3);clear m1 m2 m3)
  all_goals
   go_wp2_with fail;go_meet;exact⟨ar,cr,by rw[HOL.o,HGL.o],rfl,(show ∃us,_ from ⟨us,HU.o.1,HU.o.2.1,((Below.refl w.heap.size w).drew).trans HU.o.2.2⟩)⟩
 case rest=>
  obtain⟨ar,cr,rfl,rfl,hM⟩:=hcut;obtain⟨us,m1,m2,m3⟩:=hM.out;have HM1:Hid _:=m1;have HM2:Hid _:=m2;have HM3:=qH m3;have hR2:=RMem.below HH.o m3;have HR2:Hid (RunM G wc D r O d):=hR2;obtain⟨⟨_,_,Wb,Jz,Jg⟩,_⟩:=g8 m1;injection Wb with hsh1 hsh2 hsh3;have hcr:OL<=cr:=by have:=HGL.o;have:=HOL.o;omega
  have hcr':cr<=9223372036854775807:=by unfold maxLen at Jg;omega
  have HLO:Hid (∀j,w.heap.size<=j->O j=none):=(show ∀j,w.heap.size<=j->O j=none from fun j hj=>by
   cases hOj:O j with
   | none=>rfl
   | some o=>exact absurd (HH.o.lo j o hOj).2 qO)
  clear hM m1 m2 m3 hR2 Jz Jg hsh1 hsh2 hsh3 c0 c1 c2 c3 c4 c5 c6 c7 b0 b1 b3 p0 p2 HMD;go_wp2_with fail;go_loopw [44] (fun z wr=>∃k:Nat,k<=OL/\z=.int .i64 k/\Hid (Below D w wr)/\Hid (∀j,w.heap.size<=j->j<wc.heap.size->wr.heap[j]?=wc.heap[j]?)/\Hid (∃Ok dk sk,RunM G wr D r Ok dk/\dk.M=d.M.setP i ⟨p.got,p.pos,D3 p.out GM k,p.rd,p.ov⟩/\dk.vP=d.vP/\dk.P[i]?=some sk/\sk.ov=s.ov/\sk.gv=s.gv/\(∀j,j<wc.heap.size->Ok j=O j)/\wc.heap.size<=wr.heap.size)) (fun z _=>OL-(intOf z).toNat)
  case atStart=>refine⟨0,qM _,rfl,(show Below D w wc from HM3.o.mono HH.o.le),(show ∀j,w.heap.size<=j->j<wc.heap.size->wc.heap[j]?=wc.heap[j]? from fun _ _ _=>rfl),(show ∃Ok dk sk,_ from ⟨O,d,s,HR2.o,?_,rfl,HSl.o,rfl,rfl,fun _ _=>rfl,qA _⟩)⟩;rw[aF7];exact (ar2 HP.o).symm
  case round=>
   obtain⟨k,hk,rfl,Aa,Be,hdk⟩:=hrel;obtain⟨Ok,dk,sk,hR,eM,eP,eS,eo,eg,hOk,hsz⟩:=hdk.out;have hpk:dk.M.ps[i]?=some ⟨p.got,p.pos,D3 p.out GM k,p.rd,p.ov⟩:=by rw[eM];exact j8 HP.o
   have hlen:dk.M.ps.length=d.M.ps.length:=by rw[eM];simp[SMach.setP]
   have HR:Hid (RunM G wr D r Ok dk):=hR;have HMk:=qH eM;have HVPk:=qH (show dk.vP=.slice (some ⟨gP,0,none⟩) dk.M.ps.length cP by rw[eP,hlen];exact HVP.o);have HSk:=qH eS;have HPk:=qH hpk;have Wc:=qH (show sk.ov=.slice ao (D3 p.out GM k).length co by rw[eo,ad4 HGL.o];exact HOV.o);have HEQ:Hid (dk.vP=d.vP/\sk.ov=s.ov/\sk.gv=s.gv):=⟨eP,eo,eg⟩;have HOK:=qH hOk;have HSZ:=qH hsz;obtain⟨gP',cP',s',Ci,_,_,_,Ii,hs',q0,q1,q2,q3,q4,Pe,_⟩:=RMem.procAt hR hpk;rw[HVPk.o]at Ci;injection Ci with e1 e2 e3;injection e1 with e1;injection e1 with e1;subst e1 e3;rw[HSk.o]at hs';injection hs' with hs';subst hs';have Lt:=qH Ii;rw[Wc.o,ad4 HGL.o,<- HOL.o]at q2;rw[HEQ.o.2.2,HGV.o]at q0;clear hdk hR eM eP eS eo eg hOk hsz hpk hlen Ii e2 q1;by_cases hlt:k<OL
   .
    obtain⟨b,hb⟩:∃b,p.out[k]?=some b:=⟨_,gEl (by have:=HOL.o;omega)⟩;obtain⟨c,hc⟩:∃c,GM[k]?=some c:=⟨_,gEl (by have:=HOL.o;have:=HGL.o;omega)⟩;have hbk:(D3 p.out GM k)[k]?=some b:=by rw[aY7 HGL.o (qA _)];exact hb
    obtain⟨gm,au,cu,eA,hmc,hmr⟩:=bF8 HM1.o HM2.o Be.o hc;subst eA;have hRd:=RMem.below HR.o ((Below.refl _ wr).drew);obtain⟨gO,cO,a,eO,_,_,hgO,hOO,ha,hSa,hcO,hfO⟩:=RMem.outAt hRd HPk.o HSk.o hbk;rw[Wc.o]at eO;injection eO with eO1 eO2 eO3;subst eO1 eO3;obtain⟨s',w',O',Ae,hR',hSo,hTo,Jh⟩:=RMem.appendOut hRd HPk.o HSk.o hbk ha (hmr.below ((Below.refl _ wr).drew)) (by have:=HSM.o b (mGt hb);have:=HGB.o c (mGt hc);omega) 28;have We:O' gO=some (.outs i):=(Jh gO hgO).trans hOO;have Pg:gP<wr.heap.size:=(HR.o.lo _ _ Lt.o).2;have hcP':w'.cell? ⟨gP,i*5+2,none⟩=some (.slice (some ⟨gO,0,none⟩) OL co):=by have:=hTo.block gP Pg (by rw[Lt.o];exact fun e=>by cases e);simp only[World.cell?]at q2 ⊢;rw[this];exact q2
    have Iw:w'.cell? ⟨gO,k,none⟩=some (sl b a):=by have:=hTo.block gO hgO (by rw[hOO];exact fun e=>by cases e);simp only[World.cell?]at hcO ⊢;rw[this];exact hcO
    have Wg:w'.frozen? ⟨gO,k,none⟩=false:=by have:=hTo.block gO hgO (by rw[hOO];exact fun e=>by cases e);have h2:=hfO k;simp only[World.frozen?]at h2 ⊢;rw[this];exact h2
    have Da:Below D w (w'.setCell ⟨gO,k,none⟩ (sl (b++c) s'))/\(∀j,w.heap.size<=j->j<wc.heap.size->(w'.setCell ⟨gO,k,none⟩ (sl (b++c) s')).heap[j]?=wc.heap[j]?)/\∃Ok dk sk,RunM G (w'.setCell ⟨gO,k,none⟩ (sl (b++c) s')) D r Ok dk/\dk.M=d.M.setP i ⟨p.got,p.pos,D3 p.out GM (k+1),p.rd,p.ov⟩/\dk.vP=d.vP/\dk.P[i]?=some sk/\sk.ov=s.ov/\sk.gv=s.gv/\(∀j,j<wc.heap.size->Ok j=O j)/\wc.heap.size<=(w'.setCell ⟨gO,k,none⟩ (sl (b++c) s')).heap.size:=by
     have Az:=RMem.setOut hR' HPk.o HSk.o hbk Wc.o We hSo;have hDO:D<=gO:=(hR'.lo _ _ We).1;have hbD:Below D wr w':=((Below.refl D wr).drew).trans (hTo.below hRd);refine⟨(Aa.o.trans hbD).setCell hDO _,fun j hj1 hj2=>?_,O',dk.setProc i ((⟨p.got,p.pos,D3 p.out GM k,p.rd,p.ov⟩:SProc).setOut k (b++c)) (sk.outSet k s'),sk.outSet k s',Az,?_,HEQ.o.1,j8 HSk.o,HEQ.o.2.1,HEQ.o.2.2,fun j hj=>?_,?_⟩
     . have Lh:=HLO.o j hj1;have hne:j≠gO:=fun e=>by rw[<- e,HOK.o j hj2,Lh]at hOO;cases hOO
       rw[Below.heap_setCell _ _ _ _ hne,hTo.block j (by have:=HSZ.o;show j<wr.heap.size;omega) (by rw[HOK.o j hj2,Lh];simp)];exact Be.o j hj1 hj2
     . show dk.M.setP i _=_;rw[HMk.o];unfold SMach.setP SProc.setOut;simp only[List.set_set];rw[aF8 HGL.o hb hc]
     . rw[Jh j (by have:=HSZ.o;show j<wr.heap.size;omega)];exact HOK.o j hj
     . have h1:=hTo.size;have h2:wr.drew.heap.size=wr.heap.size:=rfl;have h3:=HSZ.o;simp only[World.size_setCell];omega
    have Ao:Hid _:=Da;have Au:Hid _:=Ae;unfold sl at hcO Iw Au;obtain⟨aa,ca⟩:=a;obtain⟨as',cs'⟩:=s';simp only at hcO Iw Au;have hcO9:wr.cell? ⟨gO,k,none⟩=some (.slice aa b.length ca):=hcO;have hbl:=t8 hSa.reads;unfold sl at Ao;simp only at Ao;generalize b.length=BL,c.length=CL,(b++c).length=BCL at *;clear Da hR' hSo hTo Jh hOO We hRd hSa ha Ae hmr hbk hb hc hcO hfO Be;go_upto_region 8 with fail;go_region_law (refine ac9 rfl (.tmp 60) (.tmp 61) 28 rfl (.slice aa BL ca) (.slice au CL cu) (by simp[Act.eval]) (by simp[Act.eval]) Au.o ?_)
    all_goals go_wp2_with fail
    all_goals go_roundw
    all_goals first
     | exact⟨k+1,qO,by go_num,Ao.o.1,Ao.o.2.1,Ao.o.2.2⟩
     | (simp[intOf];omega)
   .
    have hkO:k=p.out.length:=by have:=HOL.o;omega
    obtain⟨w',s',Ae,hR',e1,e2,e3,hTo⟩:=RMem.clearGot HR.o HPk.o HSk.o 0;have hp':(dk.setProc i ⟨(⟨p.got,p.pos,D3 p.out GM k,p.rd,p.ov⟩:SProc).got.map (fun _=>[]),p.pos,D3 p.out GM k,p.rd,p.ov⟩ s').M.ps[i]?=some ⟨p.got.map (fun _=>[]),p.pos,D3 p.out GM k,p.rd,p.ov⟩:=j8 HPk.o;have hs':(dk.setProc i ⟨(⟨p.got,p.pos,D3 p.out GM k,p.rd,p.ov⟩:SProc).got.map (fun _=>[]),p.pos,D3 p.out GM k,p.rd,p.ov⟩ s').P[i]?=some s':=j8 HSk.o;have hlen:(dk.setProc i ⟨(⟨p.got,p.pos,D3 p.out GM k,p.rd,p.ov⟩:SProc).got.map (fun _=>[]),p.pos,D3 p.out GM k,p.rd,p.ov⟩ s').M.ps.length=dk.M.ps.length:=by simp[RD.setProc,SMach.setP]
    have hv':(dk.setProc i ⟨(⟨p.got,p.pos,D3 p.out GM k,p.rd,p.ov⟩:SProc).got.map (fun _=>[]),p.pos,D3 p.out GM k,p.rd,p.ov⟩ s').vP=.slice (some ⟨gP,0,none⟩) (dk.setProc i ⟨(⟨p.got,p.pos,D3 p.out GM k,p.rd,p.ov⟩:SProc).got.map (fun _=>[]),p.pos,D3 p.out GM k,p.rd,p.ov⟩ s').M.ps.length cP:=by rw[hlen];exact HVPk.o
    have Az:=RMem.setNum (p':=⟨p.got.map (fun _=>[]),p.pos,D3 p.out GM k,true,p.ov⟩) (u:=.bool true) (k:=3) hR' hp' hs' hv' Lt.o qO rfl rfl rfl;have Pg:gP<wr.heap.size:=(HR.o.lo _ _ Lt.o).2;have hblk:=hTo.block gP Pg (by rw[Lt.o];exact fun e=>by cases e);have hc3':w'.cell? ⟨gP,i*5+3,none⟩=some (.bool p.rd):=by simp only[World.cell?]at q3 ⊢;rw[hblk];exact q3
    have hf3':w'.frozen? ⟨gP,i*5+3,none⟩=false:=by have h2:=Pe (i*5+3);simp only[World.frozen?]at h2 ⊢;rw[hblk];exact h2
    have Da:o6 G (w'.setCell ⟨gP,i*5+3,none⟩ (.bool true)) D r (d.M.setP i (D2 n d.M.fs p))/\Below D w (w'.setCell ⟨gP,i*5+3,none⟩ (.bool true)):=by refine⟨⟨Ok,(dk.setProc i ⟨p.got.map (fun _=>[]),p.pos,D3 p.out GM k,p.rd,p.ov⟩ s').setProc i ⟨p.got.map (fun _=>[]),p.pos,D3 p.out GM k,true,p.ov⟩ s',Az,?_⟩,(Aa.o.trans (Touch.below HR.o hTo)).setCell (HR.o.lo _ _ Lt.o).1 _⟩;show (dk.M.setP i _).setP i _=_;rw[HMk.o,hkO];unfold SMach.setP D2;simp only[List.set_set];rw[aO9 HGL.o,HG.o]
    have Ao:Hid _:=Da;have Au:Hid _:=Ae;rw[HEQ.o.2.2,HGV.o]at Au;clear Da hR' hp' hs' hlen hv' Az hTo hblk e1 e2 e3 Ae Be;go_wp2_with (refine ay5 _ rfl _ 62 rfl _ rfl Au.o ?_)
    go_ret;exact⟨rfl,Ao.o⟩
end Go.Proofs.YtmejdflmcikkdaaGreatDoor
namespace Go.Proofs.YtmejdflmcikkdaaGreatDoor
open Go.RowKit Go.Gs Go.Maps Tryz
variable {bs:qU}{t:TypeId}
theorem bW6(v:Value)(w:World):Calls prog 152 #[v] w fun e w'=>e=.returned (.tuple #[v,.int .i64 0])/\Bq w w':=by go_enter func152,ntmps152;go_wp2_with fail;go_ret2;exact⟨rfl,Below.refl _ _⟩
theorem bp7(w:World):o8 w (.slice none 0 0) []:=⟨none,0,rfl,qA _,by simp[maxLen],fun h=>absurd rfl h⟩
theorem bN6{w:World}{b:Nat}{a:Option Addr}{cap:Nat}(hx:w.heap[b]?=some (.cells #[.slice a bs.length cap] t (0,0)))(hr:Reads w (.slice a bs.length cap) bs.length (bs.map U)):RList w (.slice (some ⟨b,0,none⟩) 1 1) U [bs]:=by
 refine⟨[.slice a bs.length cap],⟨rfl,_,1,rfl,qA _,by simp[maxLen],fun _=>⟨b,0,rfl,fun j u hu=>?_⟩⟩,fun j p hj=>?_⟩
 .
  cases j with
  | zero=>simp at hu;subst hu;rw[qY _ _ _ _ _ _ hx];rfl
  | succ j=>simp at hu
 .
  cases j with
  | zero=>simp at hj;subst hj;exact⟨_,rfl,hr⟩
  | succ j=>simp at hj
theorem bW7(n:SNode)(ai a:Option Addr)(ci cap bx:Nat)(bs:qU)(w:World)(Ax:q9 n=0)(h3:n.kind=3)(Ad:G8 n)(hbx:w.heap[bx]?=some (.cells #[.int .i64 n.kind,.string ⟨n.file.toArray⟩,.int .i64 n.c.kind,.string ⟨n.c.word.toArray⟩,.int .i64 n.c.n,.int .i64 n.how,.int .i64 n.wide,.slice ai n.ins.length ci] 57 (0,0)))
 (hr:Reads w (.slice a bs.length cap) bs.length (bs.map U)) (hl:bs.length<=60300000) (hE:q8 w):
 Calls prog 154 #[.slice a bs.length cap,.pointer (some ⟨bx,0,none⟩)] w fun e w'=>∃au cu,e=.returned (.tuple #[.slice au (ended (made n.c (lines bs))).length cu,.int .i64 0])/\Reads w' (.slice au (ended (made n.c (lines bs))).length cu) (ended (made n.c (lines bs))).length ((ended (made n.c (lines bs))).map U)/\Bq w w':=by
 have h1:n.ins.length=1:=(A1 Ax).2 (.inr (.inl h3));have hm3:=aw6 h3 [] [bs];simp only[zo,zE]at hm3;have HB1:Hid _:=boxE (w:=w) (o:=.cells #[.slice a bs.length cap] 28);have HMD:Hid _:=bp4 n ai none ci 0 [] (.slice (some ⟨w.heap.size,0,none⟩) 1 1) [bs] (w.alloc (.cells #[.slice a bs.length cap] 28)) Ax Ad (bN6 (qJ w _) (hr.below boxE)) (by rw[h1];rfl) (by simpa using hl) (bp7 _) (by decide) (hE.below boxE);rw[hm3]at HMD;have hc:=D8 hbx;obtain⟨G,hG⟩:=qE (ended (made n.c (lines bs)));rw[<- hG]at HMD ⊢;unfold x8 at HMD;generalize (⟨n.file.toArray⟩:ByteArray)=fx,(⟨n.c.word.toArray⟩:ByteArray)=wx0,n.c.kind=ck,n.c.n=cn',n.how=hw,n.wide=wd,n.kind=nk,n.ins.length=IL,bs.length=BL at *;obtain⟨c0,c1,c2,c3,c4,c5,c6,c7⟩:=hc;have hbl:bx<w.heap.size:=bLt w _ c0;clear hbx hr hE hG hm3 Ad Ax h1 h3;go_enter func154,ntmps154;go_wp2_with fail;refine qD HMD.o ?_;rintro e w2⟨ar,cr,us,rfl,m1,m2,m3⟩;obtain⟨g,au,cu,eA,hmc,hmr⟩:=bF8 m1 m2 (wr:=w2) (fun _ _ _=>rfl) (k:=0) (b:=G) rfl;subst eA;obtain⟨⟨_,_,hsh,Jz,Jg⟩,_⟩:=g8 m1;injection hsh with hs1 hs2 hs3;obtain⟨GL,hGL⟩:=qE G.length;have HGL:=qH hGL;rw[<- hGL]at hmc hmr;have HRd:=qH hmr;have HB2:=qT HB1 m3;have hcr:1<=cr:=by simp only[ql,xI]at Jz;omega
 have hcr':cr<=9223372036854775807:=by unfold maxLen at Jg;omega
 simp only[ql,xI,qk];clear hGL m1 m2 m3 hmr HMD Jz Jg hs1 hs2 hs3 c0 c1 c2 c3 c4 c5 c6 c7;go_wp2_with fail;go_ret2;exact⟨au,cu,by rw[<- HGL.o];rfl,by rw[<- HGL.o];exact HRd.o,HB2.o⟩
variable {G:World->qW->Prop}
theorem bz5(D r:Nat)(O:qW)(d:RD)(i q:Nat)(n:SNode)(p:SProc)(x:SPipe)(w:World)(h:RunM G w D r O d)(hS:Shape d.M)(hn:d.M.ns[i]?=some n)(hp:d.M.ps[i]?=some p)(hq:q=Gs.f9 d.M.ns i+p.pos.toNat)(hx:d.M.pipes[q]?=some x)(Ad:G8 n)(hT:p.got.flatten.length<=60300000)(hsm:∀b∈p.out,b.length<=1000000000)(hE:∀W,Below D w W->q8 W):
 Calls prog 127 #[.pointer (some ⟨r,0,none⟩),.int .i64 i] w fun e w'=>e=.returned (.int .i64 0)/\o6 G w' D r ((d.M.setX q ⟨[],x.room,x.closed,true⟩).setP i (D2 n d.M.fs p))/\Below D w w':=by
 have hF:=hS.proc i n p hn hp;obtain⟨gP,cP,s,hvP,Db,Dw,hgP,hOP,hs,p0,p1,p2,p3,p4,hfP,hGo,hOo,hgl,hol⟩:=h.procAt hp;obtain⟨gX,cX,hvX,Fz,Fo,hOX⟩:=h.formX (Shape.pipes0 hS);obtain⟨t,ht,hRt,x0,x1,x2,x3,hfX,_,hgX⟩:=RMem.atX h hvX hx;obtain⟨gI,cI,hvI,hcI1,hcI2,i0⟩:=h.firstAt hn;have hil:i<d.M.ps.length:=(gSm hp).1;have hql:q<d.M.pipes.length:=(gSm hx).1;obtain⟨b0,b1,b2,b3,b4,b5,b6⟩:=K9 h.box.1;rw[hvP]at b3;rw[hvX]at b2;rw[hvI]at b5;have Fv:=hF.pos0;have hpos1:=hF.pos1;have hck:pchk x=0:=hS.pipe x (mGt hx);have hsh:=fun(W:World)=>ca7 t.1 t.2 x W (by have:=(t8 hRt.1).1;exact this);rw[bk8 hck]at hsh;have HSH:Hid _:=hsh;have hi5:n.ins.length<=5:=(A1 (hS.g.node n (mGt hn))).1;have h300:d.M.pipes.length<=300:=by
  rw[hS.xlen];have:∀(l:List SNode),(∀m∈l,m.ins.length<=5)->(b8 l).length<=5*l.length:=by
   intro l
   induction l with
   | nil=>intro _;simp[b8]
   | cons m l ih=>intro hm;have h1:=ih (fun m' hm'=>hm m' (by simp[hm']));have h2:=hm m (by simp);simp only[b8,xy,xC,qI,ql]at *;omega
  have h1:=this d.M.ns (fun m hm=>(A1 (hS.g.node m hm)).1);have:=hS.g.le60;omega
 have hFL:∀W,Bq w W->True:=fun _ _=>trivial;have HH:Hid (RunM G w D r O d):=h;have HX:=qH hx;have HVX:=qH hvX;have HOX:=qH hOX
 have Ht:Hid (∀(W:World)(O':qW)(d':RD),RunM G W D r O' d'->d'.M=d.M.setX q ⟨[],x.room,x.closed,true⟩->Below D w W->Calls prog 63 #[.pointer (some ⟨r,0,none⟩),.int .i64 i] W fun e w'=>e=.returned (.int .i64 0)/\o6 G w' D r ((d.M.setX q ⟨[],x.room,x.closed,true⟩).setP i (D2 n d.M.fs p))/\Below D W w'):=(show ∀(W:World)(O':qW)(d':RD),RunM G W D r O' d'->d'.M=d.M.setX q ⟨[],x.room,x.closed,true⟩->Below D w W->Calls prog 63 #[.pointer (some ⟨r,0,none⟩),.int .i64 i] W fun e w'=>e=.returned (.int .i64 0)/\o6 G w' D r ((d.M.setX q ⟨[],x.room,x.closed,true⟩).setP i (D2 n d.M.fs p))/\Below D W w' from fun W O' d' hR' hM' hB'=>by
  have hg2:pchk ⟨[],x.room,x.closed,true⟩=0:=by
   have hxg:=Q7 hck
   refine Z4 hxg.1 hxg.2.1 ?_ (fun _=>rfl)
   show ((0:Nat):Int)<=plim x.room
   have:=hxg.2.2.1
   omega
  have hS':Shape d'.M:=by
   rw[hM']
   refine⟨hS.gok,hS.fok,hS.plen,by simpa[SMach.setX]using hS.xlen,hS.proc,fun y hy=>?_⟩
   rcases aH6 hy with rfl | hy
   . exact hg2
   . exact hS.pipe y hy
  have h1:d'.M.ns=d.M.ns:=by rw[hM'];rfl
  have h2:d'.M.ps=d.M.ps:=by rw[hM'];rfl
  have h3:d'.M.fs=d.M.fs:=by rw[hM'];rfl
  have:=aP0 D r O' d' i n p W hR' hS'.toG (by rw[h1];exact hn) (by rw[h2];exact hp) Ad hT hsm (fun V hV=>hE V (hB'.trans hV)) hF.olen hF.glen
  rw[h3,hM']at this
  exact this)
 obtain⟨m,hm⟩:∃m:Nat,p.pos=(m:Int):=qm Fv;have hqm:q=Gs.f9 d.M.ns i+m:=by rw[hq,hm];simp
 have hqi:IntKind.i64.wrap ((Gs.f9 d.M.ns i:Int)+(m:Int))=(q:Int):=by rw[zx,hqm];omega
 rw[hm]at p1;have hfx0:=hfX (q*4);have hfx1:=hfX (q*4+1);have hfx2:=hfX (q*4+2);have hfx3:=hfX (q*4+3);unfold M8 at HSH;unfold sl at x0;obtain⟨ta,tc⟩:=t;simp only at x0 HSH;have hin:i<d.M.ns.length:=(gSm hn).1;have hf300:Gs.f9 d.M.ns i<=300:=qO;generalize d.M.ps.length=NP,d.M.ns.length=NN at *;generalize hFI:Gs.f9 d.M.ns i=FI at *;clear h hS hn hp hs hvP hvX hvI hx hq Ad hT hsm hE hF hOP hfP hGo hOo hgl hol hRt ht hOX hfX hck hsh p0 p2 p3 p4 b0 b1 b4 b6 hFL Fv hpos1 hm hqm hFI hi5;go_enter func127,ntmps127;go_wp2_with fail;go_quiet (fail);go_wp2_with fail;refine qD (HSH.o _) ?_;rintro e w2⟨rfl,hb2⟩;have Gk:Bq w w2:=(P4 (n:=nq)).trans hb2;have hR2:=RMem.below HH.o Gk;obtain⟨W3,hW3⟩:=qE (w2.alloc (.cells #[.slice none 0 0,.int .i64 x.room,.bool x.closed,.bool true] 61));have Ko:Bq w2 W3:=by rw[hW3];exact boxE
 have hR3:=RMem.below hR2 Ko;have Ak:W3.heap[w2.heap.size]?=some (.cells #[.slice none 0 0,.int .i64 x.room,.bool x.closed,.bool true] 61 (0,0)):=by rw[hW3];exact qJ _ _
 obtain⟨t3,ht3,_,y0,y1,y2,y3,gfX,gOX,gX3⟩:=RMem.atX hR3 HVX.o HX.o;obtain⟨m0,m1,m2,m3⟩:=C9 Ak;have Az:=RMem.setPipe hR3 (x':=⟨[],x.room,x.closed,true⟩) (s':=nilS) HX.o HVX.o gOX (ROf.nil _ _ _);have hDX:D<=gX:=(hR3.lo _ _ gOX).1
 have hBD:Below D w ((((W3.setCell ⟨gX,q*4,none⟩ (.slice none 0 0)).setCell ⟨gX,q*4+1,none⟩ (.int .i64 x.room)).setCell ⟨gX,q*4+2,none⟩ (.bool x.closed)).setCell ⟨gX,q*4+3,none⟩ (.bool true)):=
  (((((Gk.mono HH.o.le).trans (Ko.mono hR2.le)).setCell hDX _).setCell hDX _).setCell hDX _).setCell hDX _
 have HBD:Hid _:=hBD;have Ue:Hid _:=Ht.o ((((W3.setCell ⟨gX,q*4,none⟩ (.slice none 0 0)).setCell ⟨gX,q*4+1,none⟩ (.int .i64 x.room)).setCell ⟨gX,q*4+2,none⟩ (.bool x.closed)).setCell ⟨gX,q*4+3,none⟩ (.bool true)) O (d.setPipe q ⟨[],x.room,x.closed,true⟩ nilS) Az rfl hBD;have fX0:=gfX (q*4);have fX1:=gfX (q*4+1);have fX2:=gfX (q*4+2);have fX3:=gfX (q*4+3);unfold sl at y0;generalize ht3l:t3.1=ta3,x.b.length=XL,x.shut=xs at *;clear hR2 hR3 Az hBD Gk hb2 Ko ht3 gfX gOX Ak HSH Ht p1 b2 b3 b5 x0 x1 x2 x3 hfx0 hfx1 hfx2 hfx3 i0 hqi;go_upto_region 5 with fail;rw[<- hW3];clear hW3;go_wp2_with fail;refine qD Ue.o ?_;rintro e w9⟨rfl,hr9,hb9⟩;have Ao:Hid _:=And.intro hr9 (HBD.o.trans hb9);clear hr9 hb9 Ue;go_wp2_with fail;go_ret;exact⟨rfl,Ao.o⟩
end Go.Proofs.YtmejdflmcikkdaaGreatDoor
namespace Go.Proofs.YtmejdflmcikkdaaGreatDoor
open Go.RowKit Go.Gs Tryz
variable {b:qU}
theorem bp8(w:World):(binOp .neq 170 .nilFunc .nilFunc).run prog w=.ok (.bool false) w:=qQ
theorem bW8(w:World)(f:Fn)(a b:Array Value):(binOp .neq 170 (.func f a b) .nilFunc).run prog w=.ok (.bool true) w:=by
 first
 | kernel_rfl
 | rfl
 | simp[binOp,run_underlying underlying170]
theorem bz6{w:World}{a:Option Addr}{c k:Nat}(h:Reads w (.slice a b.length c) b.length (b.map U))(hk:k<=b.length):Reads w (.slice a (b.take k).length c) (b.take k).length ((b.take k).map U):=by
 obtain⟨h1,ao,cap,e,h2,h3,h4⟩:=h;injection e with e1 e2 e3;subst e1 e3;have hl:(b.take k).length=k:=by rw[qX];omega
 refine⟨by simp,a,c,rfl,qO,h3,fun hn=>?_⟩;obtain⟨bb,off,e4,hc⟩:=h4 qO;refine⟨bb,off,e4,fun j u hu=>hc j u ?_⟩;rw[List.map_take,xg]at hu;split at hu
 . exact hu
 . cases hu
open Go.Maps
variable {G:World->qW->Prop}
theorem bN7(D r:Nat)(O:qW)(d:RD)(i q m:Nat)(n:SNode)(p:SProc)(x:SPipe)(g:qU)(w:World)(h:RunM G w D r O d)(hS:Shape d.M)(hn:d.M.ns[i]?=some n)(hp:d.M.ps[i]?=some p)(hm:p.pos=(m:Int))(hgm:p.got[m]?=some g)(hg0:g≠[])(hq:q=Gs.f9 d.M.ns i+m)(hx:d.M.pipes[q]?=some x)(Ad:G8 n)(hT:p.got.flatten.length<=60300000)(hsm:∀b∈p.out,b.length<=90000000)(hsk:d.M.sunk.length<=90000000)(hE:∀W,Below D w W->q8 W)(hk5:n.kind=5):
 Calls prog 98 #[.pointer (some ⟨r,0,none⟩),.int .i64 i] w fun e w'=>e=.returned (.int .i64 0)/\o6 G w' D r (F3 d.M i n q p)/\Below D w w':=by
 have hF:=hS.proc i n p hn hp;have hch:=hS.g.node n (mGt hn);have hat:p.at=g:=by unfold SProc.at;rw[hm,qh,hgm];rfl
 have hml:m<p.got.length:=(gSm hgm).1;obtain⟨gP,cP,s,hvP,Db,Dw,hgP,hOP,hs,p0,p1,p2,p3,p4,hfP,hGo,hOo,hgl,hol⟩:=h.procAt hp;obtain⟨gG,cG,a,hgv,Kp,Wh,hgG,hOG,ha,hSa,g0,hfG⟩:=RMem.gotAt h hp hs hgm;have hil:i<d.M.ps.length:=(gSm hp).1;obtain⟨b0,b1,b2,b3,b4,b5,b6⟩:=K9 h.box.1;obtain⟨hRN,hRF⟩:=h.nodes;obtain⟨an,cn,hvN,Ih,Dz⟩:=hRN.shape;rw[hvN]at hRN b0;rw[hvP]at b3;rw[hgv]at p0;rw[hm]at p1;obtain⟨nb,noff,ai,ci,rfl,hNA,HPo⟩:=hRN.at hn;obtain⟨c0,c1,c2,c3,c4,c5,c6,c7⟩:=hNA;have hin:i<d.M.ns.length:=(gSm hn).1;have Oz:cn<=9223372036854775807:=by unfold maxLen at Dz;exact Dz
 have Ji:=t8 hSa.reads;have HH:Hid (RunM G w D r O d):=h;have HS:=qH hS;have HN:=qH hn;have HP:=qH hp;have HSl:=qH hs;have HX:=qH hx;have HGM:=qH hgm;have HA:=qH ha;have HSA:=qH hSa;have HGV:=qH hgv;have HVP:=qH hvP;have HOG:=qH hOG;have HOP:=qH hOP;have HAT:=qH hat;have HM:=qH hm;have HG0:=qH hg0;have HCH:=qH hch;have Gl:=qH Ad;have HSM:=qH hsm;have HSK:=qH hsk;have HE:=qH hE;have HT:=qH hT;have HQ:=qH hq;have HF:=qH hF;obtain⟨NP,hNP⟩:=qE d.M.ps.length;obtain⟨NN,hNN⟩:=qE d.M.ns.length;obtain⟨GL,hGL⟩:=qE p.got.length;obtain⟨BL,hBL⟩:=qE g.length;have HBL:=qH hBL;have HGL:=qH hGL;obtain⟨NK,hNK⟩:=qE n.kind;obtain⟨CK,hCK⟩:=qE n.c.kind;obtain⟨CN,hCN⟩:=qE n.c.n;have HNK:=qH hNK;have HCK:=qH hCK;have HCN:=qH hCN;rw[<- hNP]at b3 hil Db;rw[<- hNN]at b0 Ih hin;rw[<- hGL]at p0 Kp hml;unfold sl at g0;obtain⟨aa,ca⟩:=a;simp only at g0 Ji;rw[<- hBL]at g0 Ji;rw[<- hNK]at c0;rw[<- hCK]at c2;rw[<- hCN]at c4;obtain⟨fx,hfx⟩:=qE ((⟨n.file.toArray⟩:ByteArray));obtain⟨wx0,hwx⟩:=qE ((⟨n.c.word.toArray⟩:ByteArray));obtain⟨hw,hhw⟩:=qE n.how;obtain⟨wd,hwd⟩:=qE n.wide;obtain⟨IL,hIL⟩:=qE n.ins.length;have HV:Hid (fx=(⟨n.file.toArray⟩:ByteArray)/\wx0=(⟨n.c.word.toArray⟩:ByteArray)/\hw=n.how/\wd=n.wide/\IL=n.ins.length):=⟨hfx,hwx,hhw,hwd,hIL⟩;rw[<- hfx]at c1;rw[<- hwx]at c3;rw[<- hhw]at c5;rw[<- hwd]at c6;rw[<- hIL]at c7;clear h hS hn hp hs hx hgm ha hSa hgv hvP hOG hOP hat hm hg0 hch Ad hsm hsk hE hT hq hF hNP hNN hGL hBL hNK hCK hCN hfx hwx hhw hwd hIL hRN hRF hvN HPo hGo hOo hgl hol Dz b1 b2 b4 b5 b6 p2 p3 p4 hfP;have fb0:=fun o=>((boxE (w:=w) (o:=o)).cell (bLt w _ b0)).trans b0;have fb3:=fun o=>((boxE (w:=w) (o:=o)).cell (bLt w _ b3)).trans b3;have fc0:=fun o=>((boxE (w:=w) (o:=o)).cell (bLt w _ c0)).trans c0;have fc1:=fun o=>((boxE (w:=w) (o:=o)).cell (bLt w _ c1)).trans c1;have fc2:=fun o=>((boxE (w:=w) (o:=o)).cell (bLt w _ c2)).trans c2;have fc3:=fun o=>((boxE (w:=w) (o:=o)).cell (bLt w _ c3)).trans c3;have fc4:=fun o=>((boxE (w:=w) (o:=o)).cell (bLt w _ c4)).trans c4;have fc5:=fun o=>((boxE (w:=w) (o:=o)).cell (bLt w _ c5)).trans c5;have fc6:=fun o=>((boxE (w:=w) (o:=o)).cell (bLt w _ c6)).trans c6;have fc7:=fun o=>((boxE (w:=w) (o:=o)).cell (bLt w _ c7)).trans c7;have hrl:r<w.heap.size:=bLt w _ b0;have hnbl:nb<w.heap.size:=bLt w _ c0;go_enter func98,ntmps98;go_upto_region 1 with fail;go_region
 obtain⟨W1,hW1⟩:=qE ((w.alloc (.cells #[.int .i64 NK,.string fx,.int .i64 CK,.string wx0,.int .i64 CN,.int .i64 hw,.int .i64 wd,.slice ai IL ci] 57)).drew);have hb1:Bq w W1:=by rw[hW1];exact boxE.drew
 have hbx:W1.heap[w.heap.size]?=some (.cells #[.int .i64 NK,.string fx,.int .i64 CK,.string wx0,.int .i64 CN,.int .i64 hw,.int .i64 wd,.slice ai IL ci] 57 (0,0)):=by rw[hW1];exact qJ _ _
 have p0':=qC hb1 p0;have p1':=qC hb1 p1;have g0':=qC hb1 g0;rw[<- hW1];clear hW1 fb0 fb3 fc0 fc1 fc2 fc3 fc4 fc5 fc6 fc7 b0 b3 c0 c1 c2 c3 c4 c5 c6 c7 p0 p1 g0;go_wp2_with fail;go_quiet (fail);have hb2:Bq w (W1.drewN nq):=hb1.trans P4;have Eu:(W1.drewN nq).heap[w.heap.size]?=some (.cells #[.int .i64 NK,.string fx,.int .i64 CK,.string wx0,.int .i64 CN,.int .i64 hw,.int .i64 wd,.slice ai IL ci] 57 (0,0)):=hbx;have HB2:=qH hb2;have Eo:Hid _:=Eu;clear hbx hb1 hb2 p0' p1' g0';generalize (W1.drewN nq)=W2 at *;obtain⟨c0,c1,c2,c3,c4,c5,c6,c7⟩:=D8 Eu;clear Eu;have hR2:=RMem.below HH.o HB2.o;have HR2:Hid (RunM G W2 D r O d):=hR2;have Nu:Hid (SOf W2 O (.got i m) (aa,ca) g):=hR2.part (.got i m) p s g (aa,ca) HP.o HSl.o HGM.o HA.o;have Ph:Hid (Below D w W2):=HB2.o.mono HH.o.le;clear hR2;have h5:NK=5:=HNK.o.trans hk5;clear hk5;subst h5;have HC:=qH (show F3 d.M i n q p=⟨d.M.ns,d.M.fs,d.M.pipes,d.M.ps.set i (p.setGot []),d.M.sunk++g⟩ by unfold F3;rw[qF HNK.o.symm,HAT.o]);obtain⟨s',w',O',Ae,hR',hSo,hTo,Jh⟩:=RMem.appendSunk HR2.o (RunM.sunkS HR2.o) Nu.o.reads (by have:=HSK.o;have h2:=A3 (mGt HGM.o);have:=HT.o;omega) 28;have Az:=RMem.setSunk hR' hSo;obtain⟨z0,z1,z2,z3,z4,z5,z6⟩:=K9 HR2.o.box.1;obtain⟨y0,y1,y2,y3,y4,y5,y6⟩:=K9 (RunM.box (G:=G) hR').1;have hfr:w'.frozen? ⟨r,4,none⟩=false:=xW _ _ _ _ _ (RunM.box (G:=G) hR').1;obtain⟨W3,hW3⟩:=qE (w'.setCell ⟨r,4,none⟩ (sl (d.M.sunk++g) s'));rw[<- hW3]at Az;have hB3:Below D w W3:=by rw[hW3];exact (Ph.o.trans (hTo.below HR2.o)).setCell (hR'.lo _ _ (RMem.boxO hR')).1 _
 have HB3:=qH hB3;have HSET:Hid _:=Az;obtain⟨gP3,cP3,s3,hvP3,_,_,_,hOP3,hs3,q0,q1,_⟩:=RMem.procAt Az HP.o;rw[show (d.setSunk (d.M.sunk++g) s').vP=d.vP from rfl,HVP.o]at hvP3;injection hvP3 with e1 e2 e3;injection e1 with e1;injection e1 with e1;subst e1;rw[show (d.setSunk (d.M.sunk++g) s').P=d.P from rfl,HSl.o]at hs3;injection hs3 with hs3;subst hs3;obtain⟨gG3,cG3,a3,hgv3,_,_,hgG3,Wi,ha3,hSa3,u0,hfG3⟩:=RMem.gotAt Az HP.o HSl.o HGM.o;rw[HGV.o]at hgv3 q0;injection hgv3 with e4 e5 e6;injection e4 with e4;injection e4 with e4;subst e4;have Uf:=RMem.setGot Az HP.o HSl.o HGM.o HGV.o Wi (SOf.nil W3 O' (.got i m));have Da:o6 G (W3.setCell ⟨gG,m,none⟩ (.slice none 0 0)).drew D r (F3 d.M i n q p)/\Below D w (W3.setCell ⟨gG,m,none⟩ (.slice none 0 0)).drew:=by refine⟨o6.drew ⟨O',(d.setSunk (d.M.sunk++g) s').setProc i (SProc.gotSet p m []) (s.gotSet m nilS),Uf,?_⟩,(hB3.setCell (Az.lo _ _ Wi).1 _).drew⟩;rw[HC.o];unfold RD.setProc RD.setSunk SMach.setP SProc.gotSet SProc.setGot;rw[HM.o,qh]
 have Ao:Hid _:=Da;have Au:Hid _:=Ae;have hfg:=hfG3 m;unfold sl at z4 y4 Au hW3 u0;obtain⟨sa,sc⟩:=s';simp only at Au hW3;rw[<- HBL.o]at Au u0;have g2:W2.cell? ⟨gG,m,none⟩=some (.slice aa BL ca):=by obtain⟨gG4,cG4,a4,hgv4,_,_,_,_,ha4,_,u4,_⟩:=RMem.gotAt HR2.o HP.o HSl.o HGM.o;rw[HGV.o]at hgv4;injection hgv4 with e7;injection e7 with e7;injection e7 with e7;subst e7;rw[HA.o]at ha4;injection ha4 with ha4;subst ha4;unfold sl at u4;rw[<- HBL.o]at u4;exact u4
 rw[HM.o]at q1;rw[<- HGL.o]at q0;generalize (d.M.sunk++g).length=SGL,d.M.sunk.length=SL at *;obtain⟨a3a,a3c⟩:=a3;simp only at u0;generalize d.sS.1=ssa,d.sS.2=ssc at *;clear Da Az Uf hB3 hR' hSo hTo Jh Ae hfG3 Wi hOP3 ha3 hSa3 e2 e3 e5 e6 z0 z1 z2 z3 z5 z6 y0 y1 y2 y3 y5 y6 HC;go_wp2_with (at_builtin;refine j4 _ rfl (.tmp 46) (.tmp 47) 28 rfl _ _ rfl rfl Au.o ?_)
 rw[<- hW3];clear hW3;go_region
 all_goals go_wp2_with fail
 all_goals go_ret
 all_goals exact⟨rfl,Ao.o⟩
end Go.Proofs.YtmejdflmcikkdaaGreatDoor
