/- What the developers' full does, and more. -/
import Derived.Test.YtllgglolcgdehaaGreatDoorXa24
set_option maxRecDepth 100000
set_option maxHeartbeats 16000000
namespace Go.Proofs.YtllgglolcgdehaaGreatDoor
open Go.RowKit Go.Gs Go.Maps
set_option linter.unusedVariables false
variable {G:World->(Nat->Option Own)->Prop}
def outsTo (out GM:List (List UInt8)) (k:Nat):List (List UInt8):=List.zipWith (· ++ ·) (out.take k) (GM.take k)++out.drop k
theorem outsTo_zero (out GM:List (List UInt8)):outsTo out GM 0=out:=by simp[outsTo]
theorem outsTo_len {out GM:List (List UInt8)} (h:out.length=GM.length) (k:Nat):(outsTo out GM k).length=out.length:=by
 unfold outsTo
 rw[List.length_append,List.length_zipWith,List.length_take,List.length_take,List.length_drop]
 omega
theorem outsTo_at {out GM:List (List UInt8)} (h:out.length=GM.length) {k j:Nat} (hj:k<=j):(outsTo out GM k)[j]? = out[j]?:=by
 unfold outsTo
 by_cases hjl:j<out.length
 . rw[List.getElem?_append_right (by rw[List.length_zipWith,List.length_take,List.length_take];omega),List.length_zipWith,List.length_take,List.length_take,List.getElem?_drop]
   congr 1
   omega
 . rw[List.getElem?_eq_none (by rw[List.length_append,List.length_zipWith,List.length_take,List.length_take,List.length_drop];omega),List.getElem?_eq_none (by omega)]
theorem outsTo_step {out GM:List (List UInt8)} {k:Nat} {b c:List UInt8} (h:out.length=GM.length) (hb:out[k]? = some b) (hc:GM[k]? = some c):(outsTo out GM k).set k (b++c)=outsTo out GM (k+1):=by
 have hkl:k<out.length:=(gSm hb).1
 have hkl2:k<GM.length:=(gSm hc).1
 have hlen:(List.zipWith (· ++ ·) (out.take k) (GM.take k)).length=k:=by rw[List.length_zipWith,List.length_take,List.length_take];omega
 unfold outsTo
 rw[List.set_append_right _ _ (by omega),hlen,Nat.sub_self]
 rw[List.take_add_one,List.take_add_one,hb,hc]
 have:out.drop k=b::out.drop (k+1):=by
  rw[List.drop_eq_getElem_cons hkl]
  rw[gEl hkl] at hb
  injection hb with hb
  rw[hb]
 rw[this,List.set_cons_zero]
 simp only[Option.toList_some]
 rw[List.zipWith_append (by simp;omega)]
 simp
theorem outsTo_all {out GM:List (List UInt8)} (h:out.length=GM.length):outsTo out GM out.length=List.zipWith (· ++ ·) out GM:=by
 unfold outsTo
 rw[List.take_length,h,List.take_length,List.drop_of_length_le (by omega),List.append_nil]
theorem made_at {w W wr:World} {ar:Option Addr} {cr:Nat} {us:List Value} {GM:List (List UInt8)} (h1:W.ownsRow w.heap.size 28 1 (.slice ar GM.length cr) GM.length us) (h2:∀(j:Nat) b,GM[j]? = some b -> ∃u,us[j]? = some u/\Reads W u b.length (b.map U)/\NewV w.heap.size u)
 (hk:∀j,w.heap.size<=j->j<W.heap.size->wr.heap[j]? = W.heap[j]?) {k:Nat} {b:List UInt8} (hb:GM[k]? = some b) :
 ∃g au cu,ar=some ⟨g,0,none⟩/\wr.cell? ⟨g,k,none⟩=some (.slice au b.length cu)/\Reads wr (.slice au b.length cu) b.length (b.map U):=by
 have hkl:k<GM.length:=(gSm hb).1
 obtain⟨g,cap,e,hc1,hc2,hg,hcell,hf⟩:=(owns_formE h1).2 (by omega)
 injection e with e1 e2 e3
 obtain⟨u,hu,hr,hn⟩:=h2 k b hb
 obtain⟨q1,au,cu,rfl,q2,q3,q4⟩:=id hr
 have hgw:w.heap.size<=g:=(h1.lt g (by rw[e1];rfl)).1
 refine⟨g,au,cu,e1,?_,?_⟩
 .
  have:=hcell k (by omega)
  rw[hu] at this
  rw[<- this]
  simp only[World.cell?]
  rw[hk g hgw hg]
 .
  by_cases h0:b.length=0
  . exact⟨q1,au,cu,rfl,q2,q3,fun hn=>absurd h0 hn⟩
  .
   obtain⟨bb,off,e4,hcc⟩:=q4 h0
   have hbl:bb<W.heap.size:=bLt W _ (hcc 0 _ (gEl (by rw[q1];omega)))
   refine reads_keepO hr (fun a ha=>?_)
   rw[ha] at e4
   injection e4 with e4
   subst e4
   exact hk bb (hn _ _ _ (by rw[ha])) hbl
theorem setP_same {M:SMach} {i:Nat} {p:SProc} (h:M.ps[i]? = some p):M.setP i ⟨p.got,p.pos,p.out,p.rd,p.ov⟩=M:=by
 unfold SMach.setP
 have:M.ps.set i p=M.ps:=by
  apply List.ext_getElem?
  intro j
  by_cases e:i=j
  . subst e;rw[set_eq h,h]
  . rw[set_ne e]
 show (⟨M.ns,M.fs,M.pipes,M.ps.set i p,M.sunk⟩:SMach)=M
 rw[this]
structure ShapeG (M:SMach):Prop where
 gok:gchk M.ns=0
 fok:fchk M.fs=0
 plen:M.ps.length=M.ns.length
theorem ShapeG.g {M:SMach} (h:ShapeG M):RightG M.ns:=right_graph h.gok
theorem _root_.Go.Gs.Shape.toG {M:SMach} (h:Shape M):ShapeG M:=⟨h.gok,h.fok,h.plen⟩
theorem fullE_is (D r:Nat) (O:Nat->Option Own) (d:RD) (i:Nat) (n:SNode) (p:SProc) (w:World) (h:RunM G w D r O d) (hS:ShapeG d.M) (hn:d.M.ns[i]? = some n) (hp:d.M.ps[i]? = some p) (hfit:FitsN n) (hT:p.got.flatten.length<=241200) (hsm:∀b∈p.out,b.length<=100000000) (hE:∀W,Below D w W->KnownE W) (hol':(p.out.length:Int)=nouts n) (hgl':p.got.length=n.ins.length) :
 Calls Tryz.prog 120 #[.pointer (some ⟨r,0,none⟩),.int .i64 i] w fun e w'=>e=.returned (.int .i64 0)/\RunAt G w' D r (d.M.setP i (fullP n d.M.fs p))/\Below D w w':=by
 have hch:=hS.g.node n (mGt hn)
 obtain⟨gP,cP,s,hvP,hcP1,hcP2,hgP,hOP,hs,p0,p1,p2,p3,p4,hfP,hGo,hOo,hgl,hol⟩:=h.procAt hp
 obtain⟨⟨ao,co,hov,hov1,hov2⟩,_⟩:=owns_formE hOo
 obtain⟨⟨ag,cg,hgv,hgv1,hgv2⟩,_⟩:=owns_formE hGo
 have hil:i<d.M.ps.length:=(gSm hp).1
 obtain⟨b0,b1,b2,b3,b4,b5,b6⟩:=cells7 h.box.1
 obtain⟨hRN,hRF⟩:=h.nodes
 obtain⟨an,cn,hvN,hcn1,hcn2⟩:=hRN.shape
 obtain⟨af,cf,hvF,hcf1,hcf2⟩:=hRF.shape
 rw[hvN] at hRN b0
 rw[hvF] at hRF b1
 rw[hvP] at b3
 obtain⟨nb,noff,ai,ci,rfl,hNA,HPo⟩:=hRN.at hn
 have hMD:∀W,Below w.heap.size w W->Calls Tryz.prog 167 #[nodeV n ai n.ins.length ci,.slice af d.M.fs.length cf,s.gv] W fun e w'=>MadeEnd W (nodeMade n d.M.fs p.got) e w':=fun W hW=>
  madeE_is n ai af ci cf d.M.fs s.gv p.got W hch hfit ((h.gots hp hs).below hW) hgl' hT (hRF.below hW) hS.fok (hE W (hW.mono h.le))
 have hGl:p.out.length=(nodeMade n d.M.fs p.got).length:=by have:=nodeMade_count hch d.M.fs p.got;omega
 have hGb:∀c∈nodeMade n d.M.fs p.got,c.length<=300000:=by
  intro c hc
  have:=nodeMade_len hch d.M.fs (fun f hf=>(from_all (fchk_zero hS.fok).2 f hf).2) p.got hgl' (by omega)
  have:=flat_mem_le hc
  omega
 obtain⟨c0,c1,c2,c3,c4,c5,c6,c7⟩:=hNA
 rw[hgv] at p0 hMD
 rw[hov] at p2
 have HMD:Hid _:=hMD
 obtain⟨GM,hG⟩:∃GM,GM=nodeMade n d.M.fs p.got:=⟨_,rfl⟩
 have HG:Hid (GM=nodeMade n d.M.fs p.got):=hG
 rw[<- hG] at HMD hGl hGb
 have HGL:Hid (p.out.length=GM.length):=hGl
 have HGB:Hid (∀c∈GM,c.length<=300000):=hGb
 have HSM:Hid (∀b∈p.out,b.length<=100000000):=hsm
 have HH:Hid (RunM G w D r O d):=h
 have HP:Hid (d.M.ps[i]? = some p):=hp
 have HSl:Hid (d.P[i]? = some s):=hs
 have HVP:Hid (d.vP=.slice (some ⟨gP,0,none⟩) d.M.ps.length cP):=hvP
 have HOV:Hid (s.ov=.slice ao p.out.length co):=hov
 have HGV:Hid (s.gv=.slice ag p.got.length cg):=hgv
 obtain⟨NP,hNP⟩:∃N,N=d.M.ps.length:=⟨_,rfl⟩
 have HNP:Hid (NP=d.M.ps.length):=hNP
 obtain⟨NN,hNN⟩:∃N,N=d.M.ns.length:=⟨_,rfl⟩
 have hin:i<NN:=by rw[hNN,<- hS.plen];exact hil
 obtain⟨OL,hOL⟩:∃N,N=p.out.length:=⟨_,rfl⟩
 have HOL:Hid (OL=p.out.length):=hOL
 rw[<- hNP] at b3 hil hcP1
 rw[<- hNN] at b0 hcn1
 rw[<- hOL] at p2 hov1
 have hcn2':cn<=9223372036854775807:=by unfold maxLen at hcn2;exact hcn2
 unfold nodeV at HMD
 generalize (⟨n.file.toArray⟩:ByteArray)=fx at *
 generalize (⟨n.c.word.toArray⟩:ByteArray)=wx0 at *
 generalize n.c.kind=ck at *
 generalize n.c.n=cn' at *
 generalize n.how=hw at *
 generalize n.wide=wd at *
 generalize n.kind=nk at *
 generalize n.ins.length=IL at *
 generalize d.M.fs.length=NF at *
 generalize p.got.length=GL at *
 clear h hS hn hp hs hvP hov hgv hsm hE hol' hGo hOo hgl hol hRN hRF hMD hG hGl hGb HPo hNP hNN hOL hvN hvF hch hT hfit hcn2 b2 b4 b5 b6 hgv1 hgv2 hcf1 hcf2 hOP hfP p1 p3 p4 hov2 hgl'
 go_enter Tryz.func120,Tryz.ntmps120
 go_upto_region 2 with fail
 go_cut [6,7] (fun x y wx=>∃ar cr,x=.slice ar OL cr/\y=.int .i64 0/\Hid (∃us,wx.ownsRow w.heap.size 28 1 (.slice ar GM.length cr) GM.length us/\(∀(j:Nat) b,GM[j]? = some b -> ∃u,us[j]? = some u/\Reads wx u b.length (b.map U)/\NewV w.heap.size u)/\Below w.heap.size w wx))
 case first=>
  go_region_with (go_at_call 167;refine Calls.mono (HMD.out _ (by first | exact Below.refl _ _ | exact (Below.refl _ w).drew)) ?_;rintro e w2 hM2;obtain⟨ar,cr,us,rfl,m1,m2,m3⟩:=hM2;have HU:Hid _:=And.intro m1 (And.intro m2 m3);clear m1 m2 m3)
  all_goals
   go_wp2_with fail
   go_meet
   exact⟨ar,cr,by rw[HOL.out,HGL.out],rfl,(show ∃us,_ from ⟨us,HU.out.1,HU.out.2.1,((Below.refl w.heap.size w).drew).trans HU.out.2.2⟩)⟩
 case rest=>
  obtain⟨ar,cr,rfl,rfl,hM⟩:=hcut
  obtain⟨us,m1,m2,m3⟩:=hM.out
  have HM1:Hid _:=m1
  have HM2:Hid _:=m2
  have HM3:Hid (Below w.heap.size w wc):=m3
  have hR2:=RMem.below HH.out m3
  have HR2:Hid (RunM G wc D r O d):=hR2
  obtain⟨⟨_,_,hshape,hcr1,hcr2⟩,_⟩:=owns_formE m1
  injection hshape with hsh1 hsh2 hsh3
  have hcr:OL<=cr:=by have:=HGL.out;have:=HOL.out;omega
  have hcr':cr<=9223372036854775807:=by unfold maxLen at hcr2;omega
  have HLO:Hid (∀j,w.heap.size<=j->O j=none):=(show ∀j,w.heap.size<=j->O j=none from fun j hj=>by
   cases hOj:O j with
   | none=>rfl
   | some o=>exact absurd (HH.out.lo j o hOj).2 (by omega))
  clear hM m1 m2 m3 hR2 hcr1 hcr2 hsh1 hsh2 hsh3 c0 c1 c2 c3 c4 c5 c6 c7 b0 b1 b3 p0 p2 HMD
  go_wp2_with fail
  go_loopw [44] (fun z wr=>∃k:Nat,k<=OL/\z=.int .i64 k/\Hid (Below D w wr)/\Hid (∀j,w.heap.size<=j->j<wc.heap.size->wr.heap[j]? = wc.heap[j]?)/\Hid (∃Ok dk sk,RunM G wr D r Ok dk/\dk.M=d.M.setP i ⟨p.got,p.pos,outsTo p.out GM k,p.rd,p.ov⟩/\dk.vP=d.vP/\dk.P[i]? = some sk/\sk.ov=s.ov/\sk.gv=s.gv/\(∀j,j<wc.heap.size->Ok j=O j)/\wc.heap.size<=wr.heap.size)) (fun z _=>OL-(intOf z).toNat)
  case atStart=>
   refine⟨0,Nat.zero_le _,rfl,(show Below D w wc from HM3.out.mono HH.out.le),(show ∀j,w.heap.size<=j->j<wc.heap.size->wc.heap[j]? = wc.heap[j]? from fun _ _ _=>rfl),(show ∃Ok dk sk,_ from ⟨O,d,s,HR2.out,?_,rfl,HSl.out,rfl,rfl,fun _ _=>rfl,Nat.le_refl _⟩)⟩
   rw[outsTo_zero]
   exact (setP_same HP.out).symm
  case round=>
   obtain⟨k,hk,rfl,hbel,hkeep,hdk⟩:=hrel
   obtain⟨Ok,dk,sk,hR,eM,eP,eS,eo,eg,hOk,hsz⟩:=hdk.out
   have hpk:dk.M.ps[i]? = some ⟨p.got,p.pos,outsTo p.out GM k,p.rd,p.ov⟩:=by rw[eM];exact set_eq HP.out
   have hlen:dk.M.ps.length=d.M.ps.length:=by rw[eM];simp[SMach.setP]
   have HR:Hid (RunM G wr D r Ok dk):=hR
   have HMk:Hid (dk.M=d.M.setP i ⟨p.got,p.pos,outsTo p.out GM k,p.rd,p.ov⟩):=eM
   have HVPk:Hid (dk.vP=.slice (some ⟨gP,0,none⟩) dk.M.ps.length cP):=(show _=_ by rw[eP,hlen];exact HVP.out)
   have HSk:Hid (dk.P[i]? = some sk):=eS
   have HPk:Hid (dk.M.ps[i]? = some ⟨p.got,p.pos,outsTo p.out GM k,p.rd,p.ov⟩):=hpk
   have HOVk:Hid (sk.ov=.slice ao (outsTo p.out GM k).length co):=(show _=_ by rw[eo,outsTo_len HGL.out];exact HOV.out)
   have HEQ:Hid (dk.vP=d.vP/\sk.ov=s.ov/\sk.gv=s.gv):=⟨eP,eo,eg⟩
   have HOK:Hid (∀j,j<wc.heap.size->Ok j=O j):=hOk
   have HSZ:Hid (wc.heap.size<=wr.heap.size):=hsz
   obtain⟨gP',cP',s',hvP',_,_,_,hOPk,hs',q0,q1,q2,q3,q4,hfPk,_⟩:=RMem.procAt hR hpk
   rw[HVPk.out] at hvP'
   injection hvP' with e1 e2 e3
   injection e1 with e1
   injection e1 with e1
   subst e1 e3
   rw[HSk.out] at hs'
   injection hs' with hs'
   subst hs'
   have HOPk:Hid (Ok gP=some .procs):=hOPk
   rw[HOVk.out,outsTo_len HGL.out,<- HOL.out] at q2
   rw[HEQ.out.2.2,HGV.out] at q0
   clear hdk hR eM eP eS eo eg hOk hsz hpk hlen hOPk e2 q1
   by_cases hlt:k<OL
   .
    obtain⟨b,hb⟩:∃b,p.out[k]? = some b:=⟨_,gEl (by have:=HOL.out;omega)⟩
    obtain⟨c,hc⟩:∃c,GM[k]? = some c:=⟨_,gEl (by have:=HOL.out;have:=HGL.out;omega)⟩
    have hbk:(outsTo p.out GM k)[k]? = some b:=by rw[outsTo_at HGL.out (Nat.le_refl _)];exact hb
    obtain⟨gm,au,cu,eA,hmc,hmr⟩:=made_at HM1.out HM2.out hkeep.out hc
    subst eA
    have hRd:=RMem.below HR.out ((Below.refl _ wr).drew)
    obtain⟨gO,cO,a,eO,_,_,hgO,hOO,ha,hSa,hcO,hfO⟩:=RMem.outAt hRd HPk.out HSk.out hbk
    rw[HOVk.out] at eO
    injection eO with eO1 eO2 eO3
    subst eO1 eO3
    obtain⟨s',w',O',hrun,hR',hSo,hTo,hOold⟩:=RMem.appendOut hRd HPk.out HSk.out hbk ha (hmr.below ((Below.refl _ wr).drew)) (by have:=HSM.out b (mGt hb);have:=HGB.out c (mGt hc);omega) 28
    have hOO':O' gO=some (.outs i):=(hOold gO hgO).trans hOO
    have hgPl:gP<wr.heap.size:=(HR.out.lo _ _ HOPk.out).2
    have hcP':w'.cell? ⟨gP,i*5+2,none⟩=some (.slice (some ⟨gO,0,none⟩) OL co):=by
     have:=hTo.block gP hgPl (by rw[HOPk.out];exact fun e=>by cases e)
     simp only[World.cell?] at q2 ⊢
     rw[this]
     exact q2
    have hcO':w'.cell? ⟨gO,k,none⟩=some (sl b a):=by
     have:=hTo.block gO hgO (by rw[hOO];exact fun e=>by cases e)
     simp only[World.cell?] at hcO ⊢
     rw[this]
     exact hcO
    have hfO':w'.frozen? ⟨gO,k,none⟩=false:=by
     have:=hTo.block gO hgO (by rw[hOO];exact fun e=>by cases e)
     have h2:=hfO k
     simp only[World.frozen?] at h2 ⊢
     rw[this]
     exact h2
    have hEND:Below D w (w'.setCell ⟨gO,k,none⟩ (sl (b++c) s'))/\(∀j,w.heap.size<=j->j<wc.heap.size->(w'.setCell ⟨gO,k,none⟩ (sl (b++c) s')).heap[j]? = wc.heap[j]?) /\ ∃Ok dk sk,RunM G (w'.setCell ⟨gO,k,none⟩ (sl (b++c) s')) D r Ok dk/\dk.M=d.M.setP i ⟨p.got,p.pos,outsTo p.out GM (k+1),p.rd,p.ov⟩/\dk.vP=d.vP/\dk.P[i]? = some sk/\sk.ov=s.ov/\sk.gv=s.gv/\(∀j,j<wc.heap.size->Ok j=O j)/\wc.heap.size<=(w'.setCell ⟨gO,k,none⟩ (sl (b++c) s')).heap.size:=by
     have hset:=RMem.setOut hR' HPk.out HSk.out hbk HOVk.out hOO' hSo
     have hDO:D<=gO:=(hR'.lo _ _ hOO').1
     have hbD:Below D wr w':=((Below.refl D wr).drew).trans (hTo.below hRd)
     refine⟨(hbel.out.trans hbD).setCell hDO _,fun j hj1 hj2=>?_,O',dk.setProc i ((⟨p.got,p.pos,outsTo p.out GM k,p.rd,p.ov⟩:SProc).setOut k (b++c)) (sk.outSet k s'),sk.outSet k s',hset,?_,HEQ.out.1,set_eq HSk.out,HEQ.out.2.1,HEQ.out.2.2,fun j hj=>?_,?_⟩
     . have hnone:=HLO.out j hj1
       have hne:j≠gO:=fun e=>by rw[<- e,HOK.out j hj2,hnone] at hOO;cases hOO
       rw[Below.heap_setCell _ _ _ _ hne,hTo.block j (by have:=HSZ.out;show j<wr.heap.size;omega) (by rw[HOK.out j hj2,hnone];simp)]
       exact hkeep.out j hj1 hj2
     . show dk.M.setP i _=_
       rw[HMk.out]
       unfold SMach.setP SProc.setOut
       simp only[List.set_set]
       rw[outsTo_step HGL.out hb hc]
     . rw[hOold j (by have:=HSZ.out;show j<wr.heap.size;omega)];exact HOK.out j hj
     . have h1:=hTo.size
       have h2:wr.drew.heap.size=wr.heap.size:=rfl
       have h3:=HSZ.out
       simp only[World.size_setCell]
       omega
    have HEND:Hid _:=hEND
    have HRUN:Hid _:=hrun
    unfold sl at hcO hcO' HRUN
    obtain⟨aa,ca⟩:=a
    obtain⟨as',cs'⟩:=s'
    simp only at hcO hcO' HRUN
    have hcO9:wr.cell? ⟨gO,k,none⟩=some (.slice aa b.length ca):=hcO
    have hbl:=reads_leP hSa.reads
    unfold sl at HEND
    simp only at HEND
    generalize b.length=BL at *
    generalize c.length=CL at *
    generalize (b++c).length=BCL at *
    clear hEND hR' hSo hTo hOold hOO hOO' hRd hSa ha hrun hmr hbk hb hc hcO hfO hkeep
    go_upto_region 8 with fail
    go_region_law (refine step_append_is rfl (.tmp 60) (.tmp 61) 28 rfl (.slice aa BL ca) (.slice au CL cu) (by simp[Act.eval]) (by simp[Act.eval]) HRUN.out ?_)
    all_goals go_wp2_with fail
    all_goals go_roundw
    all_goals first
     | exact⟨k+1,by omega,by go_num,HEND.out.1,HEND.out.2.1,HEND.out.2.2⟩
     | (simp[intOf];omega)
   .
    have hkO:k=p.out.length:=by have:=HOL.out;omega
    obtain⟨w',s',hrun,hR',e1,e2,e3,hTo⟩:=RMem.clearGot HR.out HPk.out HSk.out 0
    have hp':(dk.setProc i ⟨(⟨p.got,p.pos,outsTo p.out GM k,p.rd,p.ov⟩:SProc).got.map (fun _=>[]),p.pos,outsTo p.out GM k,p.rd,p.ov⟩ s').M.ps[i]? = some ⟨p.got.map (fun _=>[]),p.pos,outsTo p.out GM k,p.rd,p.ov⟩:=set_eq HPk.out
    have hs':(dk.setProc i ⟨(⟨p.got,p.pos,outsTo p.out GM k,p.rd,p.ov⟩:SProc).got.map (fun _=>[]),p.pos,outsTo p.out GM k,p.rd,p.ov⟩ s').P[i]? = some s':=set_eq HSk.out
    have hlen:(dk.setProc i ⟨(⟨p.got,p.pos,outsTo p.out GM k,p.rd,p.ov⟩:SProc).got.map (fun _=>[]),p.pos,outsTo p.out GM k,p.rd,p.ov⟩ s').M.ps.length=dk.M.ps.length:=by simp[RD.setProc,SMach.setP]
    have hv':(dk.setProc i ⟨(⟨p.got,p.pos,outsTo p.out GM k,p.rd,p.ov⟩:SProc).got.map (fun _=>[]),p.pos,outsTo p.out GM k,p.rd,p.ov⟩ s').vP=.slice (some ⟨gP,0,none⟩) (dk.setProc i ⟨(⟨p.got,p.pos,outsTo p.out GM k,p.rd,p.ov⟩:SProc).got.map (fun _=>[]),p.pos,outsTo p.out GM k,p.rd,p.ov⟩ s').M.ps.length cP:=by rw[hlen];exact HVPk.out
    have hset:=RMem.setNum (p':=⟨p.got.map (fun _=>[]),p.pos,outsTo p.out GM k,true,p.ov⟩) (u:=.bool true) (k:=3) hR' hp' hs' hv' HOPk.out (by omega) rfl rfl rfl
    have hgPl:gP<wr.heap.size:=(HR.out.lo _ _ HOPk.out).2
    have hblk:=hTo.block gP hgPl (by rw[HOPk.out];exact fun e=>by cases e)
    have hc3':w'.cell? ⟨gP,i*5+3,none⟩=some (.bool p.rd):=by
     simp only[World.cell?] at q3 ⊢
     rw[hblk]
     exact q3
    have hf3':w'.frozen? ⟨gP,i*5+3,none⟩=false:=by
     have h2:=hfPk (i*5+3)
     simp only[World.frozen?] at h2 ⊢
     rw[hblk]
     exact h2
    have hEND:RunAt G (w'.setCell ⟨gP,i*5+3,none⟩ (.bool true)) D r (d.M.setP i (fullP n d.M.fs p))/\Below D w (w'.setCell ⟨gP,i*5+3,none⟩ (.bool true)):=by
     refine⟨⟨Ok,(dk.setProc i ⟨p.got.map (fun _=>[]),p.pos,outsTo p.out GM k,p.rd,p.ov⟩ s').setProc i ⟨p.got.map (fun _=>[]),p.pos,outsTo p.out GM k,true,p.ov⟩ s',hset,?_⟩,(hbel.out.trans (Touch.below HR.out hTo)).setCell (HR.out.lo _ _ HOPk.out).1 _⟩
     show (dk.M.setP i _).setP i _=_
     rw[HMk.out,hkO]
     unfold SMach.setP fullP
     simp only[List.set_set]
     rw[outsTo_all HGL.out,HG.out]
    have HEND:Hid _:=hEND
    have HRUN:Hid _:=hrun
    rw[HEQ.out.2.2,HGV.out] at HRUN
    clear hEND hR' hp' hs' hlen hv' hset hTo hblk e1 e2 e3 hrun hkeep
    go_wp2_with (refine wpList_clear_runE _ rfl _ 74 rfl _ rfl HRUN.out ?_)
    go_ret
    exact⟨rfl,HEND.out⟩
end Go.Proofs.YtllgglolcgdehaaGreatDoor
namespace Go.Proofs.YtllgglolcgdehaaGreatDoor
open Go.RowKit Go.Gs Go.Maps
set_option linter.unusedVariables false
theorem pass1_is (v:Value) (w:World):Calls Tryz.prog 267 #[v] w fun e w'=>e=.returned (.tuple #[v,.int .i64 0])/\Below w.heap.size w w':=by
 go_enter Tryz.func267,Tryz.ntmps267
 go_wp2_with fail
 go_ret2
 exact⟨rfl,Below.refl _ _⟩
theorem rfiles_nilE (w:World):RFiles w (.slice none 0 0) []:=⟨none,0,rfl,Nat.le_refl _,by simp[maxLen],fun h=>absurd rfl h⟩
theorem rlist_one {w:World} {b:Nat} {a:Option Addr} {cap:Nat} {bs:List UInt8} {t:TypeId} (hx:w.heap[b]? = some (.cells #[.slice a bs.length cap] t (0,0))) (hr:Reads w (.slice a bs.length cap) bs.length (bs.map U)):RList w (.slice (some ⟨b,0,none⟩) 1 1) U [bs]:=by
 refine⟨[.slice a bs.length cap],⟨rfl,_,1,rfl,Nat.le_refl _,by simp[maxLen],fun _=>⟨b,0,rfl,fun j u hu=>?_⟩⟩,fun j p hj=>?_⟩
 .
  cases j with
  | zero=>
   simp at hu
   subst hu
   rw[cell_of_row _ _ _ _ _ _ hx]
   rfl
  | succ j=>simp at hu
 .
  cases j with
  | zero=>
   simp at hj
   subst hj
   exact⟨_,rfl,hr⟩
  | succ j=>simp at hj
theorem pass2_is (n:SNode) (ai a:Option Addr) (ci cap bx:Nat) (bs:List UInt8) (w:World) (hchk:nodeChk n=0) (h3:n.kind=3) (hfit:FitsN n) (hbx:w.heap[bx]? = some (.cells #[.int .i64 n.kind,.string ⟨n.file.toArray⟩,.int .i64 n.c.kind,.string ⟨n.c.word.toArray⟩,.int .i64 n.c.n,.int .i64 n.how,.int .i64 n.wide,.slice ai n.ins.length ci] 73 (0,0)))
 (hr:Reads w (.slice a bs.length cap) bs.length (bs.map U)) (hl:bs.length<=241200) (hE:KnownE w) :
 Calls Tryz.prog 268 #[.slice a bs.length cap,.pointer (some ⟨bx,0,none⟩)] w fun e w'=>∃au cu,e=.returned (.tuple #[.slice au (ended (made n.c (lines bs))).length cu,.int .i64 0])/\Reads w' (.slice au (ended (made n.c (lines bs))).length cu) (ended (made n.c (lines bs))).length ((ended (made n.c (lines bs))).map U)/\Below w.heap.size w w':=by
 have h1:n.ins.length=1:=(right_ins hchk).2 (.inr (.inl h3))
 have hm3:=made_three h3 [] [bs]
 simp only[List.head?_cons,Option.getD_some] at hm3
 have HB1:Hid _:=boxE (w:=w) (o:=.cells #[.slice a bs.length cap] 28)
 have HMD:Hid _:=madeE_is n ai none ci 0 [] (.slice (some ⟨w.heap.size,0,none⟩) 1 1) [bs] (w.alloc (.cells #[.slice a bs.length cap] 28)) hchk hfit (rlist_one (heap_alloc_new w _) (hr.below boxE)) (by rw[h1];rfl) (by simpa using hl) (rfiles_nilE _) (by decide) (hE.below boxE)
 rw[hm3] at HMD
 have hc:=cells8E hbx
 obtain⟨G,hG⟩:∃G,G=ended (made n.c (lines bs)):=⟨_,rfl⟩
 rw[<- hG] at HMD ⊢
 unfold nodeV at HMD
 generalize (⟨n.file.toArray⟩:ByteArray)=fx at *
 generalize (⟨n.c.word.toArray⟩:ByteArray)=wx0 at *
 generalize n.c.kind=ck at *
 generalize n.c.n=cn' at *
 generalize n.how=hw at *
 generalize n.wide=wd at *
 generalize n.kind=nk at *
 generalize n.ins.length=IL at *
 generalize bs.length=BL at *
 obtain⟨c0,c1,c2,c3,c4,c5,c6,c7⟩:=hc
 have hbl:bx<w.heap.size:=bLt w _ c0
 clear hbx hr hE hG hm3 hfit hchk h1 h3
 go_enter Tryz.func268,Tryz.ntmps268
 go_wp2_with fail
 refine Calls.mono HMD.out ?_
 rintro e w2 ⟨ar,cr,us,rfl,m1,m2,m3⟩
 obtain⟨g,au,cu,eA,hmc,hmr⟩:=made_at m1 m2 (wr:=w2) (fun _ _ _=>rfl) (k:=0) (b:=G) rfl
 subst eA
 obtain⟨⟨_,_,hsh,hcr1,hcr2⟩,_⟩:=owns_formE m1
 injection hsh with hs1 hs2 hs3
 obtain⟨GL,hGL⟩:∃N,N=G.length:=⟨_,rfl⟩
 have HGL:Hid (GL=G.length):=hGL
 rw[<- hGL] at hmc hmr
 have HRd:Hid (Reads w2 (.slice au GL cu) GL (G.map U)):=hmr
 have HB2:Hid (Below w.heap.size w w2):=HB1.out.trans (m3.mono HB1.out.size)
 have hcr:1<=cr:=by simp only[List.length_cons,List.length_nil] at hcr1;omega
 have hcr':cr<=9223372036854775807:=by unfold maxLen at hcr2;omega
 simp only[List.length_cons,List.length_nil,Nat.zero_add]
 clear hGL m1 m2 m3 hmr HMD hcr1 hcr2 hs1 hs2 hs3 c0 c1 c2 c3 c4 c5 c6 c7
 go_wp2_with fail
 go_ret2
 exact⟨au,cu,by rw[<- HGL.out];rfl,by rw[<- HGL.out];exact HRd.out,HB2.out⟩
end Go.Proofs.YtllgglolcgdehaaGreatDoor
namespace Go.Proofs.YtllgglolcgdehaaGreatDoor
open Go.RowKit Go.Gs Go.Maps
set_option linter.unusedVariables false
variable {G:World->(Nat->Option Own)->Prop}
theorem enoughE_is (D r:Nat) (O:Nat->Option Own) (d:RD) (i q:Nat) (n:SNode) (p:SProc) (x:SPipe) (w:World) (h:RunM G w D r O d) (hS:Shape d.M) (hn:d.M.ns[i]? = some n) (hp:d.M.ps[i]? = some p) (hq:q=firstIn d.M.ns i+p.pos.toNat) (hx:d.M.pipes[q]? = some x) (hfit:FitsN n) (hT:p.got.flatten.length<=241200) (hsm:∀b∈p.out,b.length<=100000000) (hE:∀W,Below D w W->KnownE W) :
 Calls Tryz.prog 237 #[.pointer (some ⟨r,0,none⟩),.int .i64 i] w fun e w'=>e=.returned (.int .i64 0)/\RunAt G w' D r ((d.M.setX q ⟨[],x.room,x.closed,true⟩).setP i (fullP n d.M.fs p))/\Below D w w':=by
 have hF:=hS.proc i n p hn hp
 obtain⟨gP,cP,s,hvP,hcP1,hcP2,hgP,hOP,hs,p0,p1,p2,p3,p4,hfP,hGo,hOo,hgl,hol⟩:=h.procAt hp
 obtain⟨gX,cX,hvX,hcX1,hcX2,hOX⟩:=h.formX (Shape.pipes0 hS)
 obtain⟨t,ht,hRt,x0,x1,x2,x3,hfX,_,hgX⟩:=RMem.atX h hvX hx
 obtain⟨gI,cI,hvI,hcI1,hcI2,i0⟩:=h.firstAt hn
 have hil:i<d.M.ps.length:=(gSm hp).1
 have hql:q<d.M.pipes.length:=(gSm hx).1
 obtain⟨b0,b1,b2,b3,b4,b5,b6⟩:=cells7 h.box.1
 rw[hvP] at b3
 rw[hvX] at b2
 rw[hvI] at b5
 have hpos0:=hF.pos0
 have hpos1:=hF.pos1
 have hck:pchk x=0:=hS.pipe x (mGt hx)
 have hsh:=fun (W:World)=>shut_is t.1 t.2 x W (by have:=(reads_leP hRt.1).1;exact this)
 rw[pshut_ok hck] at hsh
 have HSH:Hid _:=hsh
 have hi5:n.ins.length<=5:=(right_ins (hS.g.node n (mGt hn))).1
 have h300:d.M.pipes.length<=300:=by
  rw[hS.xlen]
  have:∀(l:List SNode),(∀m∈l,m.ins.length<=5)->(allIns l).length<=5*l.length:=by
   intro l
   induction l with
   | nil=>intro _;simp[allIns]
   | cons m l ih=>
    intro hm
    have h1:=ih (fun m' hm'=>hm m' (by simp[hm']))
    have h2:=hm m (by simp)
    simp only[allIns,List.map_cons,List.flatten_cons,List.length_append,List.length_cons] at *
    omega
  have h1:=this d.M.ns (fun m hm=>(right_ins (hS.g.node m hm)).1)
  have:=hS.g.le60
  omega
 have hFL:∀W,Below w.heap.size w W->True:=fun _ _=>trivial
 have HH:Hid (RunM G w D r O d):=h
 have HX:Hid (d.M.pipes[q]? = some x):=hx
 have HVX:Hid (d.vX=.slice (some ⟨gX,0,none⟩) d.M.pipes.length cX):=hvX
 have HOX:Hid (O gX=some .pipes):=hOX
 have HFULL:Hid (∀(W:World) (O':Nat->Option Own) (d':RD),RunM G W D r O' d'->d'.M=d.M.setX q ⟨[],x.room,x.closed,true⟩->Below D w W->Calls Tryz.prog 120 #[.pointer (some ⟨r,0,none⟩),.int .i64 i] W fun e w'=>e=.returned (.int .i64 0)/\RunAt G w' D r ((d.M.setX q ⟨[],x.room,x.closed,true⟩).setP i (fullP n d.M.fs p))/\Below D W w'):=(show ∀(W:World) (O':Nat->Option Own) (d':RD),RunM G W D r O' d'->d'.M=d.M.setX q ⟨[],x.room,x.closed,true⟩->Below D w W->Calls Tryz.prog 120 #[.pointer (some ⟨r,0,none⟩),.int .i64 i] W fun e w'=>e=.returned (.int .i64 0)/\RunAt G w' D r ((d.M.setX q ⟨[],x.room,x.closed,true⟩).setP i (fullP n d.M.fs p))/\Below D W w' from fun W O' d' hR' hM' hB'=>by
  have hg2:pchk ⟨[],x.room,x.closed,true⟩=0:=by
   have hxg:=pchk_parts hck
   refine pchk_intro hxg.1 hxg.2.1 ?_ (fun _=>rfl)
   show ((0:Nat):Int)<=plim x.room
   have:=hxg.2.2.1
   omega
  have hS':Shape d'.M:=by
   rw[hM']
   refine⟨hS.gok,hS.fok,hS.plen,by simpa[SMach.setX] using hS.xlen,hS.proc,fun y hy=>?_⟩
   rcases mem_set hy with rfl | hy
   . exact hg2
   . exact hS.pipe y hy
  have h1:d'.M.ns=d.M.ns:=by rw[hM'];rfl
  have h2:d'.M.ps=d.M.ps:=by rw[hM'];rfl
  have h3:d'.M.fs=d.M.fs:=by rw[hM'];rfl
  have:=fullE_is D r O' d' i n p W hR' hS'.toG (by rw[h1];exact hn) (by rw[h2];exact hp) hfit hT hsm (fun V hV=>hE V (hB'.trans hV)) hF.olen hF.glen
  rw[h3,hM'] at this
  exact this)
 obtain⟨m,hm⟩:∃m:Nat,p.pos=(m:Int):=Int.eq_ofNat_of_zero_le hpos0
 have hqm:q=firstIn d.M.ns i+m:=by rw[hq,hm];simp
 have hqi:IntKind.i64.wrap ((firstIn d.M.ns i:Int)+(m:Int))=(q:Int):=by
  rw[IntKind.wrap_i64,hqm]
  omega
 rw[hm] at p1
 have hfx0:=hfX (q*4)
 have hfx1:=hfX (q*4+1)
 have hfx2:=hfX (q*4+2)
 have hfx3:=hfX (q*4+3)
 unfold pipeV at HSH
 unfold sl at x0
 obtain⟨ta,tc⟩:=t
 simp only at x0 HSH
 have hin:i<d.M.ns.length:=(gSm hn).1
 have hf300:firstIn d.M.ns i<=300:=by omega
 generalize d.M.ps.length=NP at *
 generalize d.M.ns.length=NN at *
 generalize hFI:firstIn d.M.ns i=FI at *
 clear h hS hn hp hs hvP hvX hvI hx hq hfit hT hsm hE hF hOP hfP hGo hOo hgl hol hRt ht hOX hfX hck hsh p0 p2 p3 p4 b0 b1 b4 b6 hFL hpos0 hpos1 hm hqm hFI hi5
 go_enter Tryz.func237,Tryz.ntmps237
 go_wp2_with fail
 go_quiet (fail)
 go_wp2_with fail
 refine Calls.mono (HSH.out _) ?_
 rintro e w2 ⟨rfl,hb2⟩
 have hbw2:Below w.heap.size w w2:=(drewNE (n:=nq)).trans hb2
 have hR2:=RMem.below HH.out hbw2
 obtain⟨W3,hW3⟩:∃W,W=w2.alloc (.cells #[.slice none 0 0,.int .i64 x.room,.bool x.closed,.bool true] 66):=⟨_,rfl⟩
 have hb23:Below w2.heap.size w2 W3:=by rw[hW3];exact boxE
 have hR3:=RMem.below hR2 hb23
 have hbox:W3.heap[w2.heap.size]? = some (.cells #[.slice none 0 0,.int .i64 x.room,.bool x.closed,.bool true] 66 (0,0)):=by rw[hW3];exact heap_alloc_new _ _
 obtain⟨t3,ht3,_,y0,y1,y2,y3,gfX,gOX,gX3⟩:=RMem.atX hR3 HVX.out HX.out
 obtain⟨m0,m1,m2,m3⟩:=cells4P hbox
 have hset:=RMem.setPipe hR3 (x':=⟨[],x.room,x.closed,true⟩) (s':=nilS) HX.out HVX.out gOX (ROf.nil _ _ _)
 have hDX:D<=gX:=(hR3.lo _ _ gOX).1
 have hBD:Below D w ((((W3.setCell ⟨gX,q*4,none⟩ (.slice none 0 0)).setCell ⟨gX,q*4+1,none⟩ (.int .i64 x.room)).setCell ⟨gX,q*4+2,none⟩ (.bool x.closed)).setCell ⟨gX,q*4+3,none⟩ (.bool true)):=
  (((((hbw2.mono HH.out.le).trans (hb23.mono hR2.le)).setCell hDX _).setCell hDX _).setCell hDX _).setCell hDX _
 have HBD:Hid _:=hBD
 have HCALL:Hid _:=HFULL.out ((((W3.setCell ⟨gX,q*4,none⟩ (.slice none 0 0)).setCell ⟨gX,q*4+1,none⟩ (.int .i64 x.room)).setCell ⟨gX,q*4+2,none⟩ (.bool x.closed)).setCell ⟨gX,q*4+3,none⟩ (.bool true)) O (d.setPipe q ⟨[],x.room,x.closed,true⟩ nilS) hset rfl hBD
 have fX0:=gfX (q*4)
 have fX1:=gfX (q*4+1)
 have fX2:=gfX (q*4+2)
 have fX3:=gfX (q*4+3)
 unfold sl at y0
 generalize ht3l:t3.1=ta3 at *
 generalize x.b.length=XL at *
 generalize x.shut=xs at *
 clear hR2 hR3 hset hBD hbw2 hb2 hb23 ht3 gfX gOX hbox HSH HFULL p1 b2 b3 b5 x0 x1 x2 x3 hfx0 hfx1 hfx2 hfx3 i0 hqi
 go_upto_region 5 with fail
 rw[<- hW3]
 clear hW3
 go_wp2_with fail
 refine Calls.mono HCALL.out ?_
 rintro e w9 ⟨rfl,hr9,hb9⟩
 have HEND:Hid _:=And.intro hr9 (HBD.out.trans hb9)
 clear hr9 hb9 HCALL
 go_wp2_with fail
 go_ret
 exact⟨rfl,HEND.out⟩
end Go.Proofs.YtllgglolcgdehaaGreatDoor
namespace Go.Proofs.YtllgglolcgdehaaGreatDoor
open Go.RowKit Go.Gs
set_option linter.unusedVariables false
theorem neq_nilfunc (w:World):(binOp .neq 264 .nilFunc .nilFunc).run Tryz.prog w=.ok (.bool false) w:=by kernel_rfl
theorem neq_func (w:World) (f:Fn) (a b:Array Value):(binOp .neq 264 (.func f a b) .nilFunc).run Tryz.prog w=.ok (.bool true) w:=by
 first
 | kernel_rfl
 | rfl
 | simp[binOp,run_underlying Tryz.underlying264]
theorem reads_cutE {w:World} {a:Option Addr} {c k:Nat} {b:List UInt8} (h:Reads w (.slice a b.length c) b.length (b.map U)) (hk:k<=b.length):Reads w (.slice a (b.take k).length c) (b.take k).length ((b.take k).map U):=by
 obtain⟨h1,ao,cap,e,h2,h3,h4⟩:=h
 injection e with e1 e2 e3
 subst e1 e3
 have hl:(b.take k).length=k:=by rw[List.length_take];omega
 refine⟨by simp,a,c,rfl,by omega,h3,fun hn=>?_⟩
 obtain⟨bb,off,e4,hc⟩:=h4 (by omega)
 refine⟨bb,off,e4,fun j u hu=>hc j u ?_⟩
 rw[List.map_take,List.getElem?_take] at hu
 split at hu
 . exact hu
 . cases hu
end Go.Proofs.YtllgglolcgdehaaGreatDoor
