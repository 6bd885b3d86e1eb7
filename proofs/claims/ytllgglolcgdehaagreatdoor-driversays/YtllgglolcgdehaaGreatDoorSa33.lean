/- What the developers' full does, and more. -/
import Derived.Test.YtllgglolcgdehaaGreatDoorSAb
import Derived.Test.YtllgglolcgdehaaGreatDoorSa32
set_option linter.all false
set_option maxRecDepth 100000
set_option maxHeartbeats 16000000
namespace Go.Proofs.YtllgglolcgdehaaGreatDoor
open Go.RowKit Go.Gs Go.Maps Tryz
variable {G:World->(Nat->Option Own)->Prop}
def E3(out GM:List (List UInt8))(k:Nat):List (List UInt8):=List.zipWith (· ++ ·) (out.take k) (GM.take k)++out.drop k
theorem bt9(out GM:List (List UInt8)):E3 out GM 0=out:=by simp[E3]
theorem aR8{out GM:List (List UInt8)}(h:out.length=GM.length)(k:Nat):(E3 out GM k).length=out.length:=by unfold E3;rw[qG,xg,qL,qL,qo];omega
theorem bW2{out GM:List (List UInt8)}(h:out.length=GM.length){k j:Nat}(hj:k<=j):(E3 out GM k)[j]? = out[j]?:=by
 unfold E3;by_cases hjl:j<out.length
 . rw[qj (by rw[xg,qL,qL];omega),xg,qL,qL,xd];congr 1;omega
 . rw[qm (by rw[qG,xg,qL,qL,qo];omega),qm (by omega)]
theorem bv0{out GM:List (List UInt8)}{k:Nat}{b c:List UInt8}(h:out.length=GM.length)(hb:out[k]? = some b)(hc:GM[k]? = some c):(E3 out GM k).set k (b++c)=E3 out GM (k+1):=by
 have hkl:k<out.length:=(gSm hb).1;have hkl2:k<GM.length:=(gSm hc).1;have hlen:(List.zipWith (· ++ ·) (out.take k) (GM.take k)).length=k:=by rw[xg,qL,qL];omega
 unfold E3;rw[zC _ _ (by omega),hlen,zE];rw[qX,qX,hb,hc];have:out.drop k=b::out.drop (k+1):=by rw[qh hkl];rw[gEl hkl]at hb;injection hb with hb;rw[hb]
 rw[this,List.set_cons_zero];simp only[xa];rw[List.zipWith_append (by simp;omega)];simp
theorem bG2{out GM:List (List UInt8)}(h:out.length=GM.length):E3 out GM out.length=List.zipWith (· ++ ·) out GM:=by unfold E3;rw[qZ,h,qZ,qt (by omega),xH]
theorem bJ9{w W wr:World}{ar:Option Addr}{cr:Nat}{us:List Value}{GM:List (List UInt8)}(h1:W.ownsRow w.heap.size 28 1 (.slice ar GM.length cr) GM.length us)(h2:∀(j:Nat) b,GM[j]? = some b->∃u,us[j]? = some u/\Reads W u b.length (b.map U)/\NewV w.heap.size u)
 (hk:∀j,w.heap.size<=j->j<W.heap.size->wr.heap[j]? = W.heap[j]?) {k:Nat} {b:List UInt8} (hb:GM[k]? = some b):
 ∃g au cu,ar=some ⟨g,0,none⟩/\wr.cell? ⟨g,k,none⟩=some (.slice au b.length cu)/\Reads wr (.slice au b.length cu) b.length (b.map U):=by
 have hkl:k<GM.length:=(gSm hb).1;obtain⟨g,cap,e,hc1,hc2,hg,Ac,hf⟩:=(j5 h1).2 (by omega);injection e with e1 e2 e3;obtain⟨u,hu,hr,hn⟩:=h2 k b hb;obtain⟨q1,au,cu,rfl,q2,q3,q4⟩:=id hr;have hgw:w.heap.size<=g:=(h1.lt g (by rw[e1];rfl)).1;refine⟨g,au,cu,e1,?_,?_⟩
 . have:=Ac k (by omega);rw[hu]at this;rw[<- this];simp only[World.cell?];rw[hk g hgw hg]
 .
  by_cases h0:b.length=0
  . exact⟨q1,au,cu,rfl,q2,q3,fun hn=>absurd h0 hn⟩
  . obtain⟨bb,off,e4,hcc⟩:=q4 h0;have hbl:bb<W.heap.size:=bLt W _ (hcc 0 _ (gEl (by rw[q1];omega)));refine aa1 hr (fun a ha=>?_);rw[ha]at e4;injection e4 with e4;subst e4;exact hk bb (hn _ _ _ (by rw[ha])) hbl
theorem ar6{M:SMach}{i:Nat}{p:SProc}(h:M.ps[i]? = some p):M.setP i ⟨p.got,p.pos,p.out,p.rd,p.ov⟩=M:=by
 unfold SMach.setP;have:M.ps.set i p=M.ps:=by
  apply xX;intro j;by_cases e:i=j
  . subst e;rw[x9 h,h]
  . rw[C4 e]
 show (⟨M.ns,M.fs,M.pipes,M.ps.set i p,M.sunk⟩:SMach)=M;rw[this]
structure ShapeG (M:SMach):Prop where
 gok:gchk M.ns=0
 fok:fchk M.fs=0
 plen:M.ps.length=M.ns.length
theorem ShapeG.g{M:SMach}(h:ShapeG M):RightG M.ns:=F8 h.gok
theorem _root_.Go.Gs.Shape.toG{M:SMach}(h:Shape M):ShapeG M:=⟨h.gok,h.fok,h.plen⟩
theorem aR9(D r:Nat)(O:Nat->Option Own)(d:RD)(i:Nat)(n:SNode)(p:SProc)(w:World)(h:RunM G w D r O d)(hS:ShapeG d.M)(hn:d.M.ns[i]? = some n)(hp:d.M.ps[i]? = some p)(Ad:S0 n)(hT:p.got.flatten.length<=241200)(hsm:∀b∈p.out,b.length<=100000000)(hE:∀W,Below D w W->D6 W)(hol':(p.out.length:Int)=nouts n)(Vj:p.got.length=n.ins.length):
 Calls prog 120 #[.pointer (some ⟨r,0,none⟩),.int .i64 i] w fun e w'=>e=.returned (.int .i64 0)/\l9 G w' D r (d.M.setP i (C3 n d.M.fs p))/\Below D w w':=by
 have hch:=hS.g.node n (mGt hn);obtain⟨gP,cP,s,hvP,Dn,En,hgP,hOP,hs,p0,p1,p2,p3,p4,hfP,hGo,hOo,hgl,hol⟩:=h.procAt hp;obtain⟨⟨ao,co,hov,Fq,Ea⟩,_⟩:=j5 hOo;obtain⟨⟨ag,cg,hgv,Qa,Qb⟩,_⟩:=j5 hGo;have hil:i<d.M.ps.length:=(gSm hp).1;obtain⟨b0,b1,b2,b3,b4,b5,b6⟩:=K6 h.box.1;obtain⟨hRN,hRF⟩:=h.nodes;obtain⟨an,cn,hvN,Jd,Dq⟩:=hRN.shape;obtain⟨af,cf,hvF,hcf1,hcf2⟩:=hRF.shape;rw[hvN]at hRN b0;rw[hvF]at hRF b1;rw[hvP]at b3;obtain⟨nb,noff,ai,ci,rfl,hNA,HPo⟩:=hRN.at hn
 have hMD:∀W,Bq w W->Calls prog 167 #[C6 n ai n.ins.length ci,.slice af d.M.fs.length cf,s.gv] W fun e w'=>N8 W (j0 n d.M.fs p.got) e w':=fun W hW=>
  bt6 n ai af ci cf d.M.fs s.gv p.got W hch Ad ((h.gots hp hs).below hW) Vj hT (hRF.below hW) hS.fok (hE W (hW.mono h.le))
 have hGl:p.out.length=(j0 n d.M.fs p.got).length:=by have:=o5 hch d.M.fs p.got;omega
 have hGb:∀c∈j0 n d.M.fs p.got,c.length<=300000:=by intro c hc;have:=ax5 hch d.M.fs (fun f hf=>(J2 (G2 hS.fok).2 f hf).2) p.got Vj (by omega);have:=J4 hc;omega
 obtain⟨c0,c1,c2,c3,c4,c5,c6,c7⟩:=hNA;rw[hgv]at p0 hMD;rw[hov]at p2;have HMD:Hid _:=hMD;obtain⟨GM,hG⟩:=qE (j0 n d.M.fs p.got);have HG:=qH hG;rw[<- hG]at HMD hGl hGb;have HGL:=qH hGl;have HGB:=qH hGb;have HSM:=qH hsm;have HH:=qH h;have HP:=qH hp;have HSl:=qH hs;have HVP:=qH hvP;have HOV:=qH hov;have HGV:=qH hgv;obtain⟨NP,hNP⟩:=qE d.M.ps.length;have HNP:=qH hNP;obtain⟨NN,hNN⟩:=qE d.M.ns.length;have hin:i<NN:=by rw[hNN,<- hS.plen];exact hil
 obtain⟨OL,hOL⟩:=qE p.out.length;have HOL:=qH hOL;rw[<- hNP]at b3 hil Dn;rw[<- hNN]at b0 Jd;rw[<- hOL]at p2 Fq;have Nq:cn<=9223372036854775807:=by unfold maxLen at Dq;exact Dq
 unfold C6 at HMD;generalize (⟨n.file.toArray⟩:ByteArray)=fx at *;generalize (⟨n.c.word.toArray⟩:ByteArray)=wx0 at *;generalize n.c.kind=ck at *;generalize n.c.n=cn' at *;generalize n.how=hw at *;generalize n.wide=wd at *;generalize n.kind=nk at *;generalize n.ins.length=IL at *;generalize d.M.fs.length=NF at *;generalize p.got.length=GL at *;clear h hS hn hp hs hvP hov hgv hsm hE hol' hGo hOo hgl hol hRN hRF hMD hG hGl hGb HPo hNP hNN hOL hvN hvF hch hT Ad Dq b2 b4 b5 b6 Qa Qb hcf1 hcf2 hOP hfP p1 p3 p4 Ea Vj;go_enter Tryz.func120,Tryz.ntmps120;go_upto_region 2 with fail;go_cut [6,7] (fun x y wx=>∃ar cr,x=.slice ar OL cr/\y=.int .i64 0/\Hid (∃us,wx.ownsRow w.heap.size 28 1 (.slice ar GM.length cr) GM.length us/\(∀(j:Nat) b,GM[j]? = some b->∃u,us[j]? = some u/\Reads wx u b.length (b.map U)/\NewV w.heap.size u)/\Bq w wx))
 case first=>
  go_region_with (go_at_call 167;refine qD (HMD.out _ (by first|exact qI _ _ | exact (qI _ w).drew)) ?_;rintro e w2 hM2;obtain⟨ar,cr,us,rfl,m1,m2,m3⟩:=hM2;have HU:Hid _:=And.intro m1 (And.intro m2 m3);clear m1 m2 m3)
  all_goals
   go_wp2_with fail;go_meet;exact⟨ar,cr,by rw[HOL.out,HGL.out],rfl,(show ∃us,_ from ⟨us,HU.out.1,HU.out.2.1,((qI w.heap.size w).drew).trans HU.out.2.2⟩)⟩
 case rest=>
  obtain⟨ar,cr,rfl,rfl,hM⟩:=hcut;obtain⟨us,m1,m2,m3⟩:=hM.out;have HM1:Hid _:=m1;have HM2:Hid _:=m2;have HM3:=qH m3;have hR2:=RMem.below HH.out m3;have HR2:=qH hR2;obtain⟨⟨_,_,Vk,Qc,Nr⟩,_⟩:=j5 m1;injection Vk with hsh1 hsh2 hsh3;have hcr:OL<=cr:=by have:=HGL.out;have:=HOL.out;omega
  have hcr':cr<=9223372036854775807:=by unfold maxLen at Nr;omega
  have HLO:Hid (∀j,w.heap.size<=j->O j=none):=(show ∀j,w.heap.size<=j->O j=none from fun j hj=>by
   cases hOj:O j with
   | none=>rfl
   | some o=>exact absurd (HH.out.lo j o hOj).2 (by omega))
  clear hM m1 m2 m3 hR2 Qc Nr hsh1 hsh2 hsh3 c0 c1 c2 c3 c4 c5 c6 c7 b0 b1 b3 p0 p2 HMD;go_wp2_with fail;go_loopw [44] (fun z wr=>∃k:Nat,k<=OL/\z=.int .i64 k/\Hid (Below D w wr)/\Hid (∀j,w.heap.size<=j->j<wc.heap.size->wr.heap[j]? = wc.heap[j]?)/\Hid (∃Ok dk sk,RunM G wr D r Ok dk/\dk.M=d.M.setP i ⟨p.got,p.pos,E3 p.out GM k,p.rd,p.ov⟩/\dk.vP=d.vP/\dk.P[i]? = some sk/\sk.ov=s.ov/\sk.gv=s.gv/\(∀j,j<wc.heap.size->Ok j=O j)/\wc.heap.size<=wr.heap.size)) (fun z _=>OL-(intOf z).toNat)
  case atStart=>refine⟨0,qP _,rfl,(show Below D w wc from HM3.out.mono HH.out.le),(show ∀j,w.heap.size<=j->j<wc.heap.size->wc.heap[j]? = wc.heap[j]? from fun _ _ _=>rfl),(show ∃Ok dk sk,_ from ⟨O,d,s,HR2.out,?_,rfl,HSl.out,rfl,rfl,fun _ _=>rfl,qB _⟩)⟩;rw[bt9];exact (ar6 HP.out).symm
  case round=>
   obtain⟨k,hk,rfl,Aa,Bi,hdk⟩:=hrel;obtain⟨Ok,dk,sk,hR,eM,eP,eS,eo,eg,hOk,hsz⟩:=hdk.out;have hpk:dk.M.ps[i]? = some ⟨p.got,p.pos,E3 p.out GM k,p.rd,p.ov⟩:=by rw[eM];exact x9 HP.out
   have hlen:dk.M.ps.length=d.M.ps.length:=by rw[eM];simp[SMach.setP]
   have HR:=qH hR;have HMk:=qH eM;have HVPk:=qH (show dk.vP=.slice (some ⟨gP,0,none⟩) dk.M.ps.length cP by rw[eP,hlen];exact HVP.out);have HSk:=qH eS;have HPk:=qH hpk;have Vl:=qH (show sk.ov=.slice ao (E3 p.out GM k).length co by rw[eo,aR8 HGL.out];exact HOV.out);have HEQ:Hid (dk.vP=d.vP/\sk.ov=s.ov/\sk.gv=s.gv):=⟨eP,eo,eg⟩;have HOK:=qH hOk;have HSZ:=qH hsz;obtain⟨gP',cP',s',Ft,_,_,_,hOPk,hs',q0,q1,q2,q3,q4,hfPk,_⟩:=RMem.procAt hR hpk;rw[HVPk.out]at Ft;injection Ft with e1 e2 e3;injection e1 with e1;injection e1 with e1;subst e1 e3;rw[HSk.out]at hs';injection hs' with hs';subst hs';have Kp:=qH hOPk;rw[Vl.out,aR8 HGL.out,<- HOL.out]at q2;rw[HEQ.out.2.2,HGV.out]at q0;clear hdk hR eM eP eS eo eg hOk hsz hpk hlen hOPk e2 q1;by_cases hlt:k<OL
   .
    obtain⟨b,hb⟩:∃b,p.out[k]? = some b:=⟨_,gEl (by have:=HOL.out;omega)⟩;obtain⟨c,hc⟩:∃c,GM[k]? = some c:=⟨_,gEl (by have:=HOL.out;have:=HGL.out;omega)⟩;have hbk:(E3 p.out GM k)[k]? = some b:=by rw[bW2 HGL.out (qB _)];exact hb
    obtain⟨gm,au,cu,eA,hmc,hmr⟩:=bJ9 HM1.out HM2.out Bi.out hc;subst eA;have hRd:=RMem.below HR.out ((qI _ wr).drew);obtain⟨gO,cO,a,eO,_,_,hgO,hOO,ha,hSa,hcO,hfO⟩:=RMem.outAt hRd HPk.out HSk.out hbk;rw[Vl.out]at eO;injection eO with eO1 eO2 eO3;subst eO1 eO3;obtain⟨s',w',O',Aj,hR',hSo,hTo,Ic⟩:=RMem.appendOut hRd HPk.out HSk.out hbk ha (hmr.below ((qI _ wr).drew)) (by have:=HSM.out b (mGt hb);have:=HGB.out c (mGt hc);omega) 28;have Vm:O' gO=some (.outs i):=(Ic gO hgO).trans hOO;have Ns:gP<wr.heap.size:=(HR.out.lo _ _ Kp.out).2;have hcP':w'.cell? ⟨gP,i*5+2,none⟩=some (.slice (some ⟨gO,0,none⟩) OL co):=by have:=hTo.block gP Ns (by rw[Kp.out];exact fun e=>by cases e);simp only[World.cell?]at q2 ⊢;rw[this];exact q2
    have Me:w'.cell? ⟨gO,k,none⟩=some (sl b a):=by have:=hTo.block gO hgO (by rw[hOO];exact fun e=>by cases e);simp only[World.cell?]at hcO ⊢;rw[this];exact hcO
    have hfO':w'.frozen? ⟨gO,k,none⟩=false:=by have:=hTo.block gO hgO (by rw[hOO];exact fun e=>by cases e);have h2:=hfO k;simp only[World.frozen?]at h2 ⊢;rw[this];exact h2
    have Ci:Below D w (w'.setCell ⟨gO,k,none⟩ (sl (b++c) s'))/\(∀j,w.heap.size<=j->j<wc.heap.size->(w'.setCell ⟨gO,k,none⟩ (sl (b++c) s')).heap[j]? = wc.heap[j]?)/\∃Ok dk sk,RunM G (w'.setCell ⟨gO,k,none⟩ (sl (b++c) s')) D r Ok dk/\dk.M=d.M.setP i ⟨p.got,p.pos,E3 p.out GM (k+1),p.rd,p.ov⟩/\dk.vP=d.vP/\dk.P[i]? = some sk/\sk.ov=s.ov/\sk.gv=s.gv/\(∀j,j<wc.heap.size->Ok j=O j)/\wc.heap.size<=(w'.setCell ⟨gO,k,none⟩ (sl (b++c) s')).heap.size:=by
     have Be:=RMem.setOut hR' HPk.out HSk.out hbk Vl.out Vm hSo;have hDO:D<=gO:=(hR'.lo _ _ Vm).1;have hbD:Below D wr w':=((qI D wr).drew).trans (hTo.below hRd);refine⟨(Aa.out.trans hbD).setCell hDO _,fun j hj1 hj2=>?_,O',dk.setProc i ((⟨p.got,p.pos,E3 p.out GM k,p.rd,p.ov⟩:SProc).setOut k (b++c)) (sk.outSet k s'),sk.outSet k s',Be,?_,HEQ.out.1,x9 HSk.out,HEQ.out.2.1,HEQ.out.2.2,fun j hj=>?_,?_⟩
     . have Re:=HLO.out j hj1;have hne:j≠gO:=fun e=>by rw[<- e,HOK.out j hj2,Re]at hOO;cases hOO
       rw[qJ _ _ _ _ hne,hTo.block j (by have:=HSZ.out;show j<wr.heap.size;omega) (by rw[HOK.out j hj2,Re];simp)];exact Bi.out j hj1 hj2
     . show dk.M.setP i _=_;rw[HMk.out];unfold SMach.setP SProc.setOut;simp only[ze];rw[bv0 HGL.out hb hc]
     . rw[Ic j (by have:=HSZ.out;show j<wr.heap.size;omega)];exact HOK.out j hj
     . have h1:=hTo.size;have h2:wr.drew.heap.size=wr.heap.size:=rfl;have h3:=HSZ.out;simp only[World.size_setCell];omega
    have Ao:Hid _:=Ci;have Ar:Hid _:=Aj;unfold sl at hcO Me Ar;obtain⟨aa,ca⟩:=a;obtain⟨as',cs'⟩:=s';simp only at hcO Me Ar;have hcO9:wr.cell? ⟨gO,k,none⟩=some (.slice aa b.length ca):=hcO;have hbl:=F6 hSa.reads;unfold sl at Ao;simp only at Ao;generalize b.length=BL at *;generalize c.length=CL at *;generalize (b++c).length=BCL at *;clear Ci hR' hSo hTo Ic hOO Vm hRd hSa ha Aj hmr hbk hb hc hcO hfO Bi;go_upto_region 8 with fail;go_region_law (refine ad4 rfl (.tmp 60) (.tmp 61) 28 rfl (.slice aa BL ca) (.slice au CL cu) (by simp[Act.eval]) (by simp[Act.eval]) Ar.out ?_)
    all_goals go_wp2_with fail
    all_goals go_roundw
    all_goals first
     | exact⟨k+1,by omega,by go_num,Ao.out.1,Ao.out.2.1,Ao.out.2.2⟩
     | (simp[intOf];omega)
   .
    have hkO:k=p.out.length:=by have:=HOL.out;omega
    obtain⟨w',s',Aj,hR',e1,e2,e3,hTo⟩:=RMem.clearGot HR.out HPk.out HSk.out 0;have hp':(dk.setProc i ⟨(⟨p.got,p.pos,E3 p.out GM k,p.rd,p.ov⟩:SProc).got.map (fun _=>[]),p.pos,E3 p.out GM k,p.rd,p.ov⟩ s').M.ps[i]? = some ⟨p.got.map (fun _=>[]),p.pos,E3 p.out GM k,p.rd,p.ov⟩:=x9 HPk.out;have hs':(dk.setProc i ⟨(⟨p.got,p.pos,E3 p.out GM k,p.rd,p.ov⟩:SProc).got.map (fun _=>[]),p.pos,E3 p.out GM k,p.rd,p.ov⟩ s').P[i]? = some s':=x9 HSk.out;have hlen:(dk.setProc i ⟨(⟨p.got,p.pos,E3 p.out GM k,p.rd,p.ov⟩:SProc).got.map (fun _=>[]),p.pos,E3 p.out GM k,p.rd,p.ov⟩ s').M.ps.length=dk.M.ps.length:=by simp[RD.setProc,SMach.setP]
    have hv':(dk.setProc i ⟨(⟨p.got,p.pos,E3 p.out GM k,p.rd,p.ov⟩:SProc).got.map (fun _=>[]),p.pos,E3 p.out GM k,p.rd,p.ov⟩ s').vP=.slice (some ⟨gP,0,none⟩) (dk.setProc i ⟨(⟨p.got,p.pos,E3 p.out GM k,p.rd,p.ov⟩:SProc).got.map (fun _=>[]),p.pos,E3 p.out GM k,p.rd,p.ov⟩ s').M.ps.length cP:=by rw[hlen];exact HVPk.out
    have Be:=RMem.setNum (p':=⟨p.got.map (fun _=>[]),p.pos,E3 p.out GM k,true,p.ov⟩) (u:=.bool true) (k:=3) hR' hp' hs' hv' Kp.out (by omega) rfl rfl rfl;have Ns:gP<wr.heap.size:=(HR.out.lo _ _ Kp.out).2;have hblk:=hTo.block gP Ns (by rw[Kp.out];exact fun e=>by cases e);have hc3':w'.cell? ⟨gP,i*5+3,none⟩=some (.bool p.rd):=by simp only[World.cell?]at q3 ⊢;rw[hblk];exact q3
    have hf3':w'.frozen? ⟨gP,i*5+3,none⟩=false:=by have h2:=hfPk (i*5+3);simp only[World.frozen?]at h2 ⊢;rw[hblk];exact h2
    have Ci:l9 G (w'.setCell ⟨gP,i*5+3,none⟩ (.bool true)) D r (d.M.setP i (C3 n d.M.fs p))/\Below D w (w'.setCell ⟨gP,i*5+3,none⟩ (.bool true)):=by refine⟨⟨Ok,(dk.setProc i ⟨p.got.map (fun _=>[]),p.pos,E3 p.out GM k,p.rd,p.ov⟩ s').setProc i ⟨p.got.map (fun _=>[]),p.pos,E3 p.out GM k,true,p.ov⟩ s',Be,?_⟩,(Aa.out.trans (Touch.below HR.out hTo)).setCell (HR.out.lo _ _ Kp.out).1 _⟩;show (dk.M.setP i _).setP i _=_;rw[HMk.out,hkO];unfold SMach.setP C3;simp only[ze];rw[bG2 HGL.out,HG.out]
    have Ao:Hid _:=Ci;have Ar:Hid _:=Aj;rw[HEQ.out.2.2,HGV.out]at Ar;clear Ci hR' hp' hs' hlen hv' Be hTo hblk e1 e2 e3 Aj Bi;go_wp2_with (refine aA6 _ rfl _ 74 rfl _ rfl Ar.out ?_)
    go_ret;exact⟨rfl,Ao.out⟩
end Go.Proofs.YtllgglolcgdehaaGreatDoor
namespace Go.Proofs.YtllgglolcgdehaaGreatDoor
open Go.RowKit Go.Gs Go.Maps Tryz
theorem cg7(v:Value)(w:World):Calls prog 267 #[v] w fun e w'=>e=.returned (.tuple #[v,.int .i64 0])/\Bq w w':=by go_enter Tryz.func267,Tryz.ntmps267;go_wp2_with fail;go_ret2;exact⟨rfl,qI _ _⟩
theorem bv1(w:World):j6 w (.slice none 0 0) []:=⟨none,0,rfl,qB _,by simp[maxLen],fun h=>absurd rfl h⟩
theorem bW3{w:World}{b:Nat}{a:Option Addr}{cap:Nat}{bs:List UInt8}{t:TypeId}(hx:w.heap[b]? = some (.cells #[.slice a bs.length cap] t (0,0)))(hr:Reads w (.slice a bs.length cap) bs.length (bs.map U)):RList w (.slice (some ⟨b,0,none⟩) 1 1) U [bs]:=by
 refine⟨[.slice a bs.length cap],⟨rfl,_,1,rfl,qB _,by simp[maxLen],fun _=>⟨b,0,rfl,fun j u hu=>?_⟩⟩,fun j p hj=>?_⟩
 .
  cases j with
  | zero=>
   simp at hu
   subst hu
   rw[qV _ _ _ _ _ _ hx]
   rfl
  | succ j=>simp at hu
 .
  cases j with
  | zero=>
   simp at hj
   subst hj
   exact⟨_,rfl,hr⟩
  | succ j=>simp at hj
theorem cg8(n:SNode)(ai a:Option Addr)(ci cap bx:Nat)(bs:List UInt8)(w:World)(Ap:j9 n=0)(h3:n.kind=3)(Ad:S0 n)(hbx:w.heap[bx]? = some (.cells #[.int .i64 n.kind,.string ⟨n.file.toArray⟩,.int .i64 n.c.kind,.string ⟨n.c.word.toArray⟩,.int .i64 n.c.n,.int .i64 n.how,.int .i64 n.wide,.slice ai n.ins.length ci] 73 (0,0)))
 (hr:Reads w (.slice a bs.length cap) bs.length (bs.map U)) (hl:bs.length<=241200) (hE:D6 w):
 Calls prog 268 #[.slice a bs.length cap,.pointer (some ⟨bx,0,none⟩)] w fun e w'=>∃au cu,e=.returned (.tuple #[.slice au (ended (made n.c (lines bs))).length cu,.int .i64 0])/\Reads w' (.slice au (ended (made n.c (lines bs))).length cu) (ended (made n.c (lines bs))).length ((ended (made n.c (lines bs))).map U)/\Bq w w':=by
 have h1:n.ins.length=1:=(A2 Ap).2 (.inr (.inl h3));have hm3:=aR5 h3 [] [bs];simp only[zO,xG]at hm3;have HB1:Hid _:=boxE (w:=w) (o:=.cells #[.slice a bs.length cap] 28);have HMD:Hid _:=bt6 n ai none ci 0 [] (.slice (some ⟨w.heap.size,0,none⟩) 1 1) [bs] (w.alloc (.cells #[.slice a bs.length cap] 28)) Ap Ad (bW3 (qN w _) (hr.below boxE)) (by rw[h1];rfl) (by simpa using hl) (bv1 _) (by decide) (hE.below boxE);rw[hm3]at HMD;have hc:=R9 hbx;obtain⟨G,hG⟩:=qE (ended (made n.c (lines bs)));rw[<- hG]at HMD ⊢;unfold C6 at HMD;generalize (⟨n.file.toArray⟩:ByteArray)=fx at *;generalize (⟨n.c.word.toArray⟩:ByteArray)=wx0 at *;generalize n.c.kind=ck at *;generalize n.c.n=cn' at *;generalize n.how=hw at *;generalize n.wide=wd at *;generalize n.kind=nk at *;generalize n.ins.length=IL at *;generalize bs.length=BL at *
 obtain⟨c0,c1,c2,c3,c4,c5,c6,c7⟩:=hc;have hbl:bx<w.heap.size:=bLt w _ c0;clear hbx hr hE hG hm3 Ad Ap h1 h3;go_enter Tryz.func268,Tryz.ntmps268;go_wp2_with fail;refine qD HMD.out ?_;rintro e w2⟨ar,cr,us,rfl,m1,m2,m3⟩;obtain⟨g,au,cu,eA,hmc,hmr⟩:=bJ9 m1 m2 (wr:=w2) (fun _ _ _=>rfl) (k:=0) (b:=G) rfl;subst eA;obtain⟨⟨_,_,hsh,Qc,Nr⟩,_⟩:=j5 m1;injection hsh with hs1 hs2 hs3;obtain⟨GL,hGL⟩:=qE G.length;have HGL:=qH hGL;rw[<- hGL]at hmc hmr;have HRd:=qH hmr;have HB2:=qT HB1 m3;have hcr:1<=cr:=by simp only[qY,qy]at Qc;omega
 have hcr':cr<=9223372036854775807:=by unfold maxLen at Nr;omega
 simp only[qY,qy,qa];clear hGL m1 m2 m3 hmr HMD Qc Nr hs1 hs2 hs3 c0 c1 c2 c3 c4 c5 c6 c7;go_wp2_with fail;go_ret2;exact⟨au,cu,by rw[<- HGL.out];rfl,by rw[<- HGL.out];exact HRd.out,HB2.out⟩
variable {G:World->(Nat->Option Own)->Prop}
theorem bG3(D r:Nat)(O:Nat->Option Own)(d:RD)(i q:Nat)(n:SNode)(p:SProc)(x:SPipe)(w:World)(h:RunM G w D r O d)(hS:Shape d.M)(hn:d.M.ns[i]? = some n)(hp:d.M.ps[i]? = some p)(hq:q=b7 d.M.ns i+p.pos.toNat)(hx:d.M.pipes[q]? = some x)(Ad:S0 n)(hT:p.got.flatten.length<=241200)(hsm:∀b∈p.out,b.length<=100000000)(hE:∀W,Below D w W->D6 W):
 Calls prog 237 #[.pointer (some ⟨r,0,none⟩),.int .i64 i] w fun e w'=>e=.returned (.int .i64 0)/\l9 G w' D r ((d.M.setX q ⟨[],x.room,x.closed,true⟩).setP i (C3 n d.M.fs p))/\Below D w w':=by
 have hF:=hS.proc i n p hn hp;obtain⟨gP,cP,s,hvP,Dn,En,hgP,hOP,hs,p0,p1,p2,p3,p4,hfP,hGo,hOo,hgl,hol⟩:=h.procAt hp;obtain⟨gX,cX,hvX,Ha,Ff,hOX⟩:=h.formX (Shape.pipes0 hS);obtain⟨t,ht,hRt,x0,x1,x2,x3,hfX,_,hgX⟩:=RMem.atX h hvX hx;obtain⟨gI,cI,hvI,hcI1,hcI2,i0⟩:=h.firstAt hn;have hil:i<d.M.ps.length:=(gSm hp).1;have hql:q<d.M.pipes.length:=(gSm hx).1;obtain⟨b0,b1,b2,b3,b4,b5,b6⟩:=K6 h.box.1;rw[hvP]at b3;rw[hvX]at b2;rw[hvI]at b5;have Gg:=hF.pos0;have Lr:=hF.pos1;have hck:pchk x=0:=hS.pipe x (mGt hx);have hsh:=fun(W:World)=>cm3 t.1 t.2 x W (by have:=(F6 hRt.1).1;exact this);rw[br4 hck]at hsh;have HSH:Hid _:=hsh;have hi5:n.ins.length<=5:=(A2 (hS.g.node n (mGt hn))).1;have h300:d.M.pipes.length<=300:=by
  rw[hS.xlen];have:∀(l:List SNode),(∀m∈l,m.ins.length<=5)->(j3 l).length<=5*l.length:=by
   intro l
   induction l with
   | nil=>intro _;simp[j3]
   | cons m l ih=>
    intro hm
    have h1:=ih (fun m' hm'=>hm m' (by simp[hm']))
    have h2:=hm m (by simp)
    simp only[j3,qs,qe,qG,qY]at *
    omega
  have h1:=this d.M.ns (fun m hm=>(A2 (hS.g.node m hm)).1);have:=hS.g.le60;omega
 have hFL:∀W,Bq w W->True:=fun _ _=>trivial;have HH:=qH h;have HX:=qH hx;have HVX:=qH hvX;have HOX:=qH hOX
 have Gk:Hid (∀(W:World)(O':Nat->Option Own)(d':RD),RunM G W D r O' d'->d'.M=d.M.setX q ⟨[],x.room,x.closed,true⟩->Below D w W->Calls prog 120 #[.pointer (some ⟨r,0,none⟩),.int .i64 i] W fun e w'=>e=.returned (.int .i64 0)/\l9 G w' D r ((d.M.setX q ⟨[],x.room,x.closed,true⟩).setP i (C3 n d.M.fs p))/\Below D W w'):=(show ∀(W:World)(O':Nat->Option Own)(d':RD),RunM G W D r O' d'->d'.M=d.M.setX q ⟨[],x.room,x.closed,true⟩->Below D w W->Calls prog 120 #[.pointer (some ⟨r,0,none⟩),.int .i64 i] W fun e w'=>e=.returned (.int .i64 0)/\l9 G w' D r ((d.M.setX q ⟨[],x.room,x.closed,true⟩).setP i (C3 n d.M.fs p))/\Below D W w' from fun W O' d' hR' hM' hB'=>by
  have hg2:pchk ⟨[],x.room,x.closed,true⟩=0:=by
   have hxg:=Q0 hck
   refine I6 hxg.1 hxg.2.1 ?_ (fun _=>rfl)
   show ((0:Nat):Int)<=plim x.room
   have:=hxg.2.2.1
   omega
  have hS':Shape d'.M:=by
   rw[hM']
   refine⟨hS.gok,hS.fok,hS.plen,by simpa[SMach.setX]using hS.xlen,hS.proc,fun y hy=>?_⟩
   rcases aK4 hy with rfl | hy
   . exact hg2
   . exact hS.pipe y hy
  have h1:d'.M.ns=d.M.ns:=by rw[hM'];rfl
  have h2:d'.M.ps=d.M.ps:=by rw[hM'];rfl
  have h3:d'.M.fs=d.M.fs:=by rw[hM'];rfl
  have:=aR9 D r O' d' i n p W hR' hS'.toG (by rw[h1];exact hn) (by rw[h2];exact hp) Ad hT hsm (fun V hV=>hE V (hB'.trans hV)) hF.olen hF.glen
  rw[h3,hM']at this
  exact this)
 obtain⟨m,hm⟩:∃m:Nat,p.pos=(m:Int):=xW Gg;have hqm:q=b7 d.M.ns i+m:=by rw[hq,hm];simp
 have hqi:IntKind.i64.wrap ((b7 d.M.ns i:Int)+(m:Int))=(q:Int):=by rw[zZ,hqm];omega
 rw[hm]at p1;have hfx0:=hfX (q*4);have hfx1:=hfX (q*4+1);have hfx2:=hfX (q*4+2);have hfx3:=hfX (q*4+3);unfold W9 at HSH;unfold sl at x0;obtain⟨ta,tc⟩:=t;simp only at x0 HSH;have hin:i<d.M.ns.length:=(gSm hn).1;have hf300:b7 d.M.ns i<=300:=by omega
 generalize d.M.ps.length=NP at *;generalize d.M.ns.length=NN at *;generalize hFI:b7 d.M.ns i=FI at *;clear h hS hn hp hs hvP hvX hvI hx hq Ad hT hsm hE hF hOP hfP hGo hOo hgl hol hRt ht hOX hfX hck hsh p0 p2 p3 p4 b0 b1 b4 b6 hFL Gg Lr hm hqm hFI hi5;go_enter Tryz.func237,Tryz.ntmps237;go_wp2_with fail;go_quiet (fail);go_wp2_with fail;refine qD (HSH.out _) ?_;rintro e w2⟨rfl,hb2⟩;have Fg:Bq w w2:=(ag7 (n:=nq)).trans hb2;have hR2:=RMem.below HH.out Fg;obtain⟨W3,hW3⟩:=qE (w2.alloc (.cells #[.slice none 0 0,.int .i64 x.room,.bool x.closed,.bool true] 66));have Vn:Bq w2 W3:=by rw[hW3];exact boxE
 have hR3:=RMem.below hR2 Vn;have Bf:W3.heap[w2.heap.size]? = some (.cells #[.slice none 0 0,.int .i64 x.room,.bool x.closed,.bool true] 66 (0,0)):=by rw[hW3];exact qN _ _
 obtain⟨t3,ht3,_,y0,y1,y2,y3,gfX,gOX,gX3⟩:=RMem.atX hR3 HVX.out HX.out;obtain⟨m0,m1,m2,m3⟩:=E5 Bf;have Be:=RMem.setPipe hR3 (x':=⟨[],x.room,x.closed,true⟩) (s':=nilS) HX.out HVX.out gOX (ROf.nil _ _ _);have hDX:D<=gX:=(hR3.lo _ _ gOX).1
 have hBD:Below D w ((((W3.setCell ⟨gX,q*4,none⟩ (.slice none 0 0)).setCell ⟨gX,q*4+1,none⟩ (.int .i64 x.room)).setCell ⟨gX,q*4+2,none⟩ (.bool x.closed)).setCell ⟨gX,q*4+3,none⟩ (.bool true)):=
  (((((Fg.mono HH.out.le).trans (Vn.mono hR2.le)).setCell hDX _).setCell hDX _).setCell hDX _).setCell hDX _
 have HBD:Hid _:=hBD;have Rf:Hid _:=Gk.out ((((W3.setCell ⟨gX,q*4,none⟩ (.slice none 0 0)).setCell ⟨gX,q*4+1,none⟩ (.int .i64 x.room)).setCell ⟨gX,q*4+2,none⟩ (.bool x.closed)).setCell ⟨gX,q*4+3,none⟩ (.bool true)) O (d.setPipe q ⟨[],x.room,x.closed,true⟩ nilS) Be rfl hBD;have fX0:=gfX (q*4);have fX1:=gfX (q*4+1);have fX2:=gfX (q*4+2);have fX3:=gfX (q*4+3);unfold sl at y0;generalize ht3l:t3.1=ta3 at *;generalize x.b.length=XL at *;generalize x.shut=xs at *;clear hR2 hR3 Be hBD Fg hb2 Vn ht3 gfX gOX Bf HSH Gk p1 b2 b3 b5 x0 x1 x2 x3 hfx0 hfx1 hfx2 hfx3 i0 hqi;go_upto_region 5 with fail;rw[<- hW3];clear hW3;go_wp2_with fail;refine qD Rf.out ?_;rintro e w9⟨rfl,hr9,hb9⟩;have Ao:Hid _:=And.intro hr9 (HBD.out.trans hb9);clear hr9 hb9 Rf;go_wp2_with fail;go_ret;exact⟨rfl,Ao.out⟩
end Go.Proofs.YtllgglolcgdehaaGreatDoor
namespace Go.Proofs.YtllgglolcgdehaaGreatDoor
open Go.RowKit Go.Gs Tryz
theorem bv2(w:World):(binOp .neq 264 .nilFunc .nilFunc).run prog w=.ok (.bool false) w:=by kernel_rfl
theorem cg9(w:World)(f:Fn)(a b:Array Value):(binOp .neq 264 (.func f a b) .nilFunc).run prog w=.ok (.bool true) w:=by
 first
 | kernel_rfl
 | rfl
 | simp[binOp,run_underlying underlying264]
theorem bG4{w:World}{a:Option Addr}{c k:Nat}{b:List UInt8}(h:Reads w (.slice a b.length c) b.length (b.map U))(hk:k<=b.length):Reads w (.slice a (b.take k).length c) (b.take k).length ((b.take k).map U):=by
 obtain⟨h1,ao,cap,e,h2,h3,h4⟩:=h;injection e with e1 e2 e3;subst e1 e3;have hl:(b.take k).length=k:=by rw[qL];omega
 refine⟨by simp,a,c,rfl,by omega,h3,fun hn=>?_⟩;obtain⟨bb,off,e4,hc⟩:=h4 (by omega);refine⟨bb,off,e4,fun j u hu=>hc j u ?_⟩;rw[List.map_take,xR]at hu;split at hu
 . exact hu
 . cases hu
open Go.Maps
variable {G:World->(Nat->Option Own)->Prop}
theorem bW4(D r:Nat)(O:Nat->Option Own)(d:RD)(i q m:Nat)(n:SNode)(p:SProc)(x:SPipe)(g:List UInt8)(w:World)(h:RunM G w D r O d)(hS:Shape d.M)(hn:d.M.ns[i]? = some n)(hp:d.M.ps[i]? = some p)(hm:p.pos=(m:Int))(hgm:p.got[m]? = some g)(hg0:g≠[])(hq:q=b7 d.M.ns i+m)(hx:d.M.pipes[q]? = some x)(Ad:S0 n)(hT:p.got.flatten.length<=241200)(hsm:∀b∈p.out,b.length<=90000000)(hsk:d.M.sunk.length<=90000000)(hE:∀W,Below D w W->D6 W)(hk5:n.kind=5):
 Calls prog 170 #[.pointer (some ⟨r,0,none⟩),.int .i64 i] w fun e w'=>e=.returned (.int .i64 0)/\l9 G w' D r (I7 d.M i n q p)/\Below D w w':=by
 have hF:=hS.proc i n p hn hp;have hch:=hS.g.node n (mGt hn);have hat:p.at=g:=by unfold SProc.at;rw[hm,qq,hgm];rfl
 have hml:m<p.got.length:=(gSm hgm).1;obtain⟨gP,cP,s,hvP,Dn,En,hgP,hOP,hs,p0,p1,p2,p3,p4,hfP,hGo,hOo,hgl,hol⟩:=h.procAt hp;obtain⟨gG,cG,a,hgv,Je,Vo,hgG,hOG,ha,hSa,g0,hfG⟩:=RMem.gotAt h hp hs hgm;have hil:i<d.M.ps.length:=(gSm hp).1;obtain⟨b0,b1,b2,b3,b4,b5,b6⟩:=K6 h.box.1;obtain⟨hRN,hRF⟩:=h.nodes;obtain⟨an,cn,hvN,Jd,Dq⟩:=hRN.shape;rw[hvN]at hRN b0;rw[hvP]at b3;rw[hgv]at p0;rw[hm]at p1;obtain⟨nb,noff,ai,ci,rfl,hNA,HPo⟩:=hRN.at hn;obtain⟨c0,c1,c2,c3,c4,c5,c6,c7⟩:=hNA;have hin:i<d.M.ns.length:=(gSm hn).1;have Nq:cn<=9223372036854775807:=by unfold maxLen at Dq;exact Dq
 have Ie:=F6 hSa.reads;have HH:=qH h;have HS:=qH hS;have HN:=qH hn;have HP:=qH hp;have HSl:=qH hs;have HX:=qH hx;have HGM:=qH hgm;have HA:=qH ha;have HSA:=qH hSa;have HGV:=qH hgv;have HVP:=qH hvP;have HOG:=qH hOG;have HOP:=qH hOP;have HAT:=qH hat;have HM:=qH hm;have HG0:=qH hg0;have HCH:=qH hch;have Hh:=qH Ad;have HSM:=qH hsm;have HSK:=qH hsk;have HE:=qH hE;have HT:=qH hT;have HQ:=qH hq;have HF:=qH hF;obtain⟨NP,hNP⟩:=qE d.M.ps.length;obtain⟨NN,hNN⟩:=qE d.M.ns.length;obtain⟨GL,hGL⟩:=qE p.got.length;obtain⟨BL,hBL⟩:=qE g.length;have HBL:=qH hBL;have HGL:=qH hGL;obtain⟨NK,hNK⟩:=qE n.kind;obtain⟨CK,hCK⟩:=qE n.c.kind;obtain⟨CN,hCN⟩:=qE n.c.n;have HNK:=qH hNK;have HCK:=qH hCK;have HCN:=qH hCN;rw[<- hNP]at b3 hil Dn;rw[<- hNN]at b0 Jd hin;rw[<- hGL]at p0 Je hml;unfold sl at g0;obtain⟨aa,ca⟩:=a;simp only at g0 Ie;rw[<- hBL]at g0 Ie;rw[<- hNK]at c0;rw[<- hCK]at c2
 rw[<- hCN]at c4;obtain⟨fx,hfx⟩:=qE ((⟨n.file.toArray⟩:ByteArray));obtain⟨wx0,hwx⟩:=qE ((⟨n.c.word.toArray⟩:ByteArray));obtain⟨hw,hhw⟩:=qE n.how;obtain⟨wd,hwd⟩:=qE n.wide;obtain⟨IL,hIL⟩:=qE n.ins.length;have HV:Hid (fx=(⟨n.file.toArray⟩:ByteArray)/\wx0=(⟨n.c.word.toArray⟩:ByteArray)/\hw=n.how/\wd=n.wide/\IL=n.ins.length):=⟨hfx,hwx,hhw,hwd,hIL⟩;rw[<- hfx]at c1;rw[<- hwx]at c3;rw[<- hhw]at c5;rw[<- hwd]at c6;rw[<- hIL]at c7;clear h hS hn hp hs hx hgm ha hSa hgv hvP hOG hOP hat hm hg0 hch Ad hsm hsk hE hT hq hF hNP hNN hGL hBL hNK hCK hCN hfx hwx hhw hwd hIL hRN hRF hvN HPo hGo hOo hgl hol Dq b1 b2 b4 b5 b6 p2 p3 p4 hfP;have fb0:=fun o=>((boxE (w:=w) (o:=o)).cell (bLt w _ b0)).trans b0;have fb3:=fun o=>((boxE (w:=w) (o:=o)).cell (bLt w _ b3)).trans b3;have fc0:=fun o=>((boxE (w:=w) (o:=o)).cell (bLt w _ c0)).trans c0
 have fc1:=fun o=>((boxE (w:=w) (o:=o)).cell (bLt w _ c1)).trans c1;have fc2:=fun o=>((boxE (w:=w) (o:=o)).cell (bLt w _ c2)).trans c2;have fc3:=fun o=>((boxE (w:=w) (o:=o)).cell (bLt w _ c3)).trans c3;have fc4:=fun o=>((boxE (w:=w) (o:=o)).cell (bLt w _ c4)).trans c4;have fc5:=fun o=>((boxE (w:=w) (o:=o)).cell (bLt w _ c5)).trans c5;have fc6:=fun o=>((boxE (w:=w) (o:=o)).cell (bLt w _ c6)).trans c6;have fc7:=fun o=>((boxE (w:=w) (o:=o)).cell (bLt w _ c7)).trans c7;have hrl:r<w.heap.size:=bLt w _ b0;have hnbl:nb<w.heap.size:=bLt w _ c0;go_enter Tryz.func170,Tryz.ntmps170;go_upto_region 1 with fail;go_region
 obtain⟨W1,hW1⟩:=qE ((w.alloc (.cells #[.int .i64 NK,.string fx,.int .i64 CK,.string wx0,.int .i64 CN,.int .i64 hw,.int .i64 wd,.slice ai IL ci] 73)).drew);have hb1:Bq w W1:=by rw[hW1];exact boxE.drew
 have hbx:W1.heap[w.heap.size]? = some (.cells #[.int .i64 NK,.string fx,.int .i64 CK,.string wx0,.int .i64 CN,.int .i64 hw,.int .i64 wd,.slice ai IL ci] 73 (0,0)):=by rw[hW1];exact qN _ _
 have p0':=qC hb1 p0;have p1':=qC hb1 p1;have g0':=qC hb1 g0;rw[<- hW1];clear hW1 fb0 fb3 fc0 fc1 fc2 fc3 fc4 fc5 fc6 fc7 b0 b3 c0 c1 c2 c3 c4 c5 c6 c7 p0 p1 g0;go_wp2_with fail;go_quiet (fail);have hb2:Bq w (W1.drewN nq):=hb1.trans ag7;have Ec:(W1.drewN nq).heap[w.heap.size]? = some (.cells #[.int .i64 NK,.string fx,.int .i64 CK,.string wx0,.int .i64 CN,.int .i64 hw,.int .i64 wd,.slice ai IL ci] 73 (0,0)):=hbx;have HB2:=qH hb2;have Eb:Hid _:=Ec;clear hbx hb1 hb2 p0' p1' g0';generalize (W1.drewN nq)=W2 at *;obtain⟨c0,c1,c2,c3,c4,c5,c6,c7⟩:=R9 Ec;clear Ec;have hR2:=RMem.below HH.out HB2.out;have HR2:=qH hR2;have Md:Hid (SOf W2 O (.got i m) (aa,ca) g):=hR2.part (.got i m) p s g (aa,ca) HP.out HSl.out HGM.out HA.out;have Nu:Hid (Below D w W2):=HB2.out.mono HH.out.le;clear hR2;have h5:NK=5:=HNK.out.trans hk5;clear hk5;subst h5
 have HC:=qH (show I7 d.M i n q p=⟨d.M.ns,d.M.fs,d.M.pipes,d.M.ps.set i (p.setGot []),d.M.sunk++g⟩ by unfold I7;rw[qF HNK.out.symm,HAT.out]);obtain⟨s',w',O',Aj,hR',hSo,hTo,Ic⟩:=RMem.appendSunk HR2.out Md.out.reads (by have:=HSK.out;have h2:=J4 (mGt HGM.out);have:=HT.out;omega) 28;have Be:=RMem.setSunk hR' hSo;obtain⟨z0,z1,z2,z3,z4,z5,z6⟩:=K6 HR2.out.box.1;obtain⟨y0,y1,y2,y3,y4,y5,y6⟩:=K6 hR'.box.1;have hfr:w'.frozen? ⟨r,4,none⟩=false:=xK _ _ _ _ _ hR'.box.1;obtain⟨W3,hW3⟩:=qE (w'.setCell ⟨r,4,none⟩ (sl (d.M.sunk++g) s'));rw[<- hW3]at Be;have hB3:Below D w W3:=by rw[hW3];exact (Nu.out.trans (hTo.below HR2.out)).setCell (hR'.lo _ _ hR'.box.2).1 _
 have HB3:=qH hB3;have HSET:Hid _:=Be;obtain⟨gP3,cP3,s3,hvP3,_,_,_,hOP3,hs3,q0,q1,_⟩:=RMem.procAt Be HP.out;rw[show (d.setSunk (d.M.sunk++g) s').vP=d.vP from rfl,HVP.out]at hvP3;injection hvP3 with e1 e2 e3;injection e1 with e1;injection e1 with e1;subst e1;rw[show (d.setSunk (d.M.sunk++g) s').P=d.P from rfl,HSl.out]at hs3;injection hs3 with hs3;subst hs3;obtain⟨gG3,cG3,a3,hgv3,_,_,hgG3,Vp,ha3,hSa3,u0,hfG3⟩:=RMem.gotAt Be HP.out HSl.out HGM.out;rw[HGV.out]at hgv3 q0;injection hgv3 with e4 e5 e6;injection e4 with e4;injection e4 with e4;subst e4;have Rh:=RMem.setGot Be HP.out HSl.out HGM.out HGV.out Vp (SOf.nil W3 O' (.got i m))
 have Ci:l9 G (W3.setCell ⟨gG,m,none⟩ (.slice none 0 0)).drew D r (I7 d.M i n q p)/\Below D w (W3.setCell ⟨gG,m,none⟩ (.slice none 0 0)).drew:=by refine⟨l9.drew ⟨O',(d.setSunk (d.M.sunk++g) s').setProc i (SProc.gotSet p m []) (s.gotSet m nilS),Rh,?_⟩,(hB3.setCell (Be.lo _ _ Vp).1 _).drew⟩;rw[HC.out];unfold RD.setProc RD.setSunk SMach.setP SProc.gotSet SProc.setGot;rw[HM.out,qq]
 have Ao:Hid _:=Ci;have Ar:Hid _:=Aj;have hfg:=hfG3 m;unfold sl at z4 y4 Ar hW3 u0;obtain⟨sa,sc⟩:=s';simp only at Ar hW3;rw[<- HBL.out]at Ar u0;have g2:W2.cell? ⟨gG,m,none⟩=some (.slice aa BL ca):=by obtain⟨gG4,cG4,a4,hgv4,_,_,_,_,ha4,_,u4,_⟩:=RMem.gotAt HR2.out HP.out HSl.out HGM.out;rw[HGV.out]at hgv4;injection hgv4 with e7;injection e7 with e7;injection e7 with e7;subst e7;rw[HA.out]at ha4;injection ha4 with ha4;subst ha4;unfold sl at u4;rw[<- HBL.out]at u4;exact u4
 rw[HM.out]at q1;rw[<- HGL.out]at q0;generalize (d.M.sunk++g).length=SGL at *;generalize d.M.sunk.length=SL at *;obtain⟨a3a,a3c⟩:=a3;simp only at u0;generalize d.sS.1=ssa at *;generalize d.sS.2=ssc at *;clear Ci Be Rh hB3 hR' hSo hTo Ic Aj hfG3 Vp hOP3 ha3 hSa3 e2 e3 e5 e6 z0 z1 z2 z3 z5 z6 y0 y1 y2 y3 y5 y6 HC;go_wp2_with (at_builtin;refine V9 _ rfl (.tmp 46) (.tmp 47) 28 rfl _ _ rfl rfl Ar.out ?_)
 rw[<- hW3];clear hW3;go_region
 all_goals go_wp2_with fail
 all_goals go_ret
 all_goals exact⟨rfl,Ao.out⟩
end Go.Proofs.YtllgglolcgdehaaGreatDoor
