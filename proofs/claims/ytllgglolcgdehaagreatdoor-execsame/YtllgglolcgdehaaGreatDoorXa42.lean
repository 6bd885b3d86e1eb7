/- What the developers' Plan of a right line does, and more. -/
import Derived.ProofKit
import Derived.OpenShut
import Derived.SliceStrings
import Derived.Test.YtllgglolcgdehaaGreatDoorXa41
import Derived.Test.YtllgglolcgdehaaGreatDoorXa33
set_option maxRecDepth 100000
set_option maxHeartbeats 16000000
namespace Go.Proofs.YtllgglolcgdehaaGreatDoor
open Go.RowKit Go.Gs
set_option linter.unusedVariables false
theorem DStep.go {w w' w1:World} {B D:Nat} {go:Option Nat} {X:Nat->Prop} {d d2:PD} (h:DStep w w' B D go X d2) (hs:DSt w B D go X d) (hb:Below B w1 w) (hB:B<=w.heap.size):∃go',DSt w' B D go' X d2/\Below B w1 w':=by
 obtain⟨g',h1,h2,h3⟩:=h
 obtain⟨a1,a2,a3⟩:=hs.own
 exact⟨g',h1,hb.trans (h2.below hB a3 (fun g hg=>(a1 g hg).1) (fun g hg=>hg.elim))⟩
theorem plan_ok (l:SLine) (wn:Nat) (hw:1<=wn/\wn<=5) (af ad:Option Addr) (cf cd:Nat) (w:World) (hf:Reads w (.slice af l.fr.length cf) l.fr.length (l.fr.map S)) (hd:RCmds w (.slice ad l.cs.length cd) l.cs) (hfit:FitsL l) (h:lchk l=0) :
 Calls Tryz.prog 28 #[.agg #[.slice af l.fr.length cf,.slice ad l.cs.length cd,.string ⟨l.tu.toArray⟩],.int .i64 (wn:Int)] w fun e w'=>PlanEnd w (plan l wn,0) e w':=by
 have HC:Hid _:=fun (W:World) (hb:Below w.heap.size w W)=>checkLine_is l af ad cf cd W (hf.below hb) (hd.below hb) hfit
 rw[h] at HC
 obtain⟨⟨hn1,hn4,hn6⟩,hwf,hwt,hcs⟩:=lchk_all h
 have HF:Hid (Reads w (.slice af l.fr.length cf) l.fr.length (l.fr.map S)):=hf
 have HD:Hid (RCmds w (.slice ad l.cs.length cd) l.cs):=hd
 have HCS:Hid (∀c∈l.cs,chk c=0):=hcs
 have HFit:Hid (FitsL l):=hfit
 have HLN:Hid _:=(plan_len hw h)
 obtain⟨NF,hNF⟩:∃N,N=l.fr.length:=⟨_,rfl⟩
 obtain⟨ND,hND⟩:∃N,N=l.cs.length:=⟨_,rfl⟩
 have HNF:Hid (NF=l.fr.length):=hNF
 have HND:Hid (ND=l.cs.length):=hND
 have hN1:1<=NF:=by omega
 have hN4:NF<=4:=by omega
 have hN6:ND<=6:=by omega
 have hw1:¬(wn:Int)<1:=by omega
 have hw5:¬(5:Int)<(wn:Int):=by omega
 have HDL:Hid (∀k,k<=ND->((pDone wn l.fr (l.cs.take k)).2.length=1\/(pDone wn l.fr (l.cs.take k)).2.length=wn)/\(pDone wn l.fr (l.cs.take k)).1.length<=5+7*k):=(show ∀k,_->_ from fun k hk=>by
  have:=pDone_len hw hn1 hn4 (l.cs.take k)
  rw[List.length_take,Nat.min_eq_left (by omega)] at this
  exact this)
 rw[<- hNF,<- hND] at HC ⊢
 obtain⟨tx,htx⟩:∃tx:ByteArray,tx=⟨l.tu.toArray⟩:=⟨_,rfl⟩
 have HTX:Hid (tx=⟨l.tu.toArray⟩):=htx
 rw[<- htx] at HC ⊢
 rw[<- hNF] at HF
 rw[<- hND] at HD
 obtain⟨i1,hi',hy0,hy1,hy2⟩:=info_parts infoPortO
 clear hf hd hfit h hn1 hn4 hn6 hwf hwt hcs hNF hND htx
 go_enter Tryz.func28,Tryz.ntmps28
 go_wp2_with fail
 refine (HC.out _ two_belowO).mono ?_
 rintro e w1 ⟨rfl,hb1⟩
 have HBB:Hid (Below w.heap.size w w1):=two_belowO.trans (hb1.mono (by simp;omega))
 have HLR:Hid (LR w1 w.heap.size (.slice af NF cf) (.slice ad ND cd) (.string tx)):=LR.start hb1
 have hs1:w.heap.size+1<w1.heap.size:=by have:=hb1.size;simp at this;omega
 obtain⟨x0,x1,x2,x3,x4⟩:=HLR.out.cells
 have hx0:=(box_of (w:=w1) (o:=.cells #[.slice none 0 0,.slice none 0 0] 144)).cell (bLt w1 _ x0)
 rw[x0] at hx0
 clear hb1 HC x0 x1 x2 x3 x4
 go_wp2_with fail
 go_loopw [29] (fun i wr=>∃k:Nat,k<=NF/\i=.int .i64 k /\ ∃ov v rows,Hid (SRel w1 wr w1.heap.size l.fr k ov v rows)) (fun i _=>NF-(intOf i).toNat)
 case atStart=>exact⟨0,Nat.zero_le _,rfl,_,_,_,SRel.start w1 l.fr⟩
 case round=>
  clear hx0
  obtain⟨k,hk,rfl,ov,v,rows,HS⟩:=hrel
  have HBr:Hid (Below w1.heap.size w1 wr):=HS.out.2.2.2.2.2
  have hszr:w1.heap.size<wr.heap.size:=block_ltO HS.out.1
  by_cases hlt:k<NF
  .
   obtain⟨s,hs⟩:∃s,l.fr[k]? = some s:=⟨_,gEl (by have:=HNF.out;omega)⟩
   obtain⟨b,off,hao,hcell⟩:=(Reads.below HF.out (HBB.out.trans (HBr.out.mono HBB.out.size))).at hs
   subst hao
   obtain⟨ao,co,hov,ho1,ho2⟩:=owns_formO HS.out.2.2.2.1
   subst hov
   have hrl:rows.length=k:=by
    have h1:=HS.out.2.2.1
    have h2:=(pStart_len (l.fr.take k) ([],[])).1
    have h3:(l.fr.take k).length=k:=by rw[List.length_take];have:=HNF.out;omega
    rw[h3] at h2
    have h4:rows.length=(pStart (l.fr.take k)).1.length:=by rw[<- h1];simp
    rw[h4]
    simpa[pStart] using h2
   have HRL:Hid _:=hrl
   have hrl60:rows.length<=60:=by omega
   have HADD:Hid _:=fun (W2:World) (hb:Below wr.heap.size wr W2)=>HS.out.add hb s hrl60
   have HST:Hid _:=fun (W2 w4 w5:World) (hb:Below wr.heap.size wr W2) (v4 ov5:Value) (q1:w4.heap[w1.heap.size]? = some (.cells #[v4,.slice ao k co] 144 (0,0))) q2 q6 q7 ow gr bl=>HS.out.step hs (Nat.le_refl _) hb (w4:=w4) (w5:=w5) (v4:=v4) (ov5:=ov5) (r:=(srcN s,none,0)) rfl q1 q2 q6 q7 ow gr bl
   have HO4:Hid _:=fun (W2 w4:World) (hb:Below wr.heap.size wr W2) q6=>HS.out.own4 (w4:=w4) hb q6
   have HCF:Hid (∀(W:World) (v' vo:Value),W.heap[w1.heap.size]? = some (.cells #[v',vo] 144 (0,0))->W.cell? ⟨w1.heap.size,1,none⟩=some vo/\W.frozen? ⟨w1.heap.size,1,none⟩=false):=(show ∀W v' vo,_->_ from fun W v' vo q=>⟨by rw[cell_of_row _ _ _ _ _ _ q];rfl,frozen_of_row _ _ _ _ _ q⟩)
   obtain⟨y1,y2⟩:=HCF.out _ _ _ HS.out.1
   generalize (⟨s.toArray⟩:ByteArray)=sx at *
   clear hs hrl
   go_upto_region 10 with fail
   go_region_law (first
    | (refine step_callO rfl 90 #[.pointer (some ⟨w1.heap.size,0,none⟩),.agg #[.int .i64 1,.string sx,.int .i64 0,.string ⟨#[]⟩,.int .i64 0,.int .i64 0,.int .i64 0,.slice none 0 0]] (by go_simp) (HADD.out _ (by first | exact Below.refl _ _ | exact (Below.refl _ _).drew)) ?_;rintro e w4 ⟨v4,b4,rfl,q1,q2,q3,q4,q5,q6,q7⟩;refine⟨_,rfl,?_⟩;have hs4:wr.heap.size<=w4.heap.size:=q6.size;have HO5:Hid _:=HO4.out _ _ (by first | exact Below.refl _ _ | exact (Below.refl _ _).drew) q6;have HST5:Hid _:=fun (w5:World) (ov5:Value) ow gr bl=>HST.out _ w4 w5 (by first | exact Below.refl _ _ | exact (Below.refl _ _).drew) v4 ov5 q1 q2 q6 q7 ow gr bl;have HQ5:Hid _:=cells_rowO q5;obtain⟨u1,u2⟩:=HCF.out _ _ _ q1)
    | (refine step_append_ownO rfl (.tmp 34) (.tmp 37) 71 rfl w1.heap.size 79 i1 _ 2 16 Tryz.underlying71 hi' hy0 hy1 hy2 rfl (by omega) (.slice ao k co) k _ (by simp[Act.eval]) HO5.out ⟨b4,0,none⟩ 1 1 (pCells (newPorts rows.length 1)) (by simp[Act.eval]) (by rw[pCells_length,newPorts_len]) HQ5.out (pCells_one _) (by unfold maxLen;omega) (by omega) (by omega) ?_;intro v5 w5 ow5 gr5 nn5 bl5;obtain⟨HL5,hD5⟩:=HST5.out _ _ ow5 gr5 bl5;obtain⟨z1,z2⟩:=HCF.out _ _ _ hD5;obtain⟨a5,c5,rfl,_,_⟩:=owns_formO ow5))
   all_goals
    have HL6:Hid _:=HL5
    clear HL5 hD5 z1 z2 u1 u2 ow5 gr5 nn5 bl5 q1 q2 q3 q4 q5 q6 q7 HO5 HST5 HQ5 HADD HST HO4 y1 y2
    go_wp2_with fail
    go_roundw
    case rel=>exact⟨k+1,by omega,by go_num,_,_,_,HL6.out⟩
    case measure=>simp[intOf];omega
  .
   have hkN:NF=k:=by omega
   have HST:Hid (DSt wr w1.heap.size w1.heap.size v.ownBlock noX (pStart l.fr)):=HS.out.done (by rw[<- HNF.out];exact hkN.symm)
   have hl60:(pStart l.fr).1.length<=60:=by
    have h2:=(pStart_len l.fr ([],[])).1
    have:=HNF.out
    unfold pStart
    simp only[List.length_nil] at h2
    omega
   have HBH:Hid _:=dbehind_is w1.heap.size w1.heap.size v.ownBlock noX (pStart l.fr) wr HST.out hl60 (by omega)
   have HBG:Hid _:=fun (w':World) (h:DStep wr w' w1.heap.size w1.heap.size v.ownBlock noX (pBehind (pStart l.fr)))=>h.go HST.out HBr.out (by omega)
   clear HS hl60 HST
   go_wp2_with fail
   refine Calls.mono HBH.out ?_
   rintro e w5 ⟨rfl,hst⟩
   obtain⟨go5,S5,B5⟩:=HBG.out _ hst
   have HS5:Hid (DSt w5 w1.heap.size w1.heap.size go5 noX (pDone wn l.fr (l.cs.take 0))):=S5
   have HB5:Hid (Below w1.heap.size w1 w5):=B5
   obtain⟨x0,x1,x2,x3,x4⟩:=(HLR.out.below HB5.out hs1).cells
   clear hst HBH HBG S5 B5 HBr hszr hkN hk x0 x2 x3 x4
   go_wp2_with fail
   go_loopw [45] (fun i wr=>∃k:Nat,k<=ND/\i=.int .i64 k /\ ∃go,Hid (DSt wr w1.heap.size w1.heap.size go noX (pDone wn l.fr (l.cs.take k)))/\Hid (Below w1.heap.size w1 wr)) (fun i _=>ND-(intOf i).toNat)
   case atStart=>exact⟨0,Nat.zero_le _,rfl,_,HS5,HB5⟩
   case round=>
    clear HS5 HB5 x1
    obtain⟨j,hj,rfl,go,HS,HBr⟩:=hrel
    obtain⟨hgo,hDl,_⟩:=HS.out.own
    by_cases hlt2:j<ND
    .
     obtain⟨c,hc⟩:∃c,l.cs[j]? = some c:=⟨_,gEl (by have:=HND.out;omega)⟩
     obtain⟨b,off,hao,c0,c1,c2⟩:=(RCmds.below HD.out (HBB.out.trans (HBr.out.mono HBB.out.size))).at hc
     subst hao
     have hcm:=mGt hc
     have HCM:Hid _:=fun (W2:World) (hb:Below wr.heap.size wr W2)=>command_is c (HCS.out c hcm) (HFit.out.2.1 c hcm) wn hw w1.heap.size w1.heap.size go (pDone wn l.fr (l.cs.take j)) W2 (HS.out.below hb) (by have:=(HDL.out j hj).2;omega) (HDL.out j hj).1 (by have:=hb.size;omega)
     have HG:Hid _:=fun (W2 w':World) (hb:Below wr.heap.size wr W2) (h:DStep W2 w' w1.heap.size w1.heap.size go noX (pCmd wn (pDone wn l.fr (l.cs.take j)) c))=>h.go (HS.out.below hb) (HBr.out.trans (hb.mono (by omega))) (by have:=hb.size;omega)
     have hnx:pCmd wn (pDone wn l.fr (l.cs.take j)) c=pDone wn l.fr (l.cs.take (j+1)):=by rw[List.take_add_one,hc,Option.toList_some,pDone_snoc]
     rw[hnx] at HCM HG
     unfold Cmd.v at HCM
     generalize (⟨c.word.toArray⟩:ByteArray)=wx at *
     generalize c.kind=ck at *
     generalize c.n=cn at *
     clear hc hcm hnx HS HBr
     go_wp2_with fail
     refine Calls.mono (HCM.out _ box_of) ?_
     rintro e w6 ⟨rfl,hst⟩
     obtain⟨go6,S6,B6⟩:=HG.out _ _ box_of hst
     have HS6:Hid _:=S6
     have HB6:Hid _:=B6
     clear hst HCM HG S6 B6 c0 c1 c2
     go_wp2_with fail
     go_roundw
     case rel=>exact⟨j+1,by omega,by go_num,_,HS6,HB6⟩
     case measure=>simp[intOf];omega
    .
     have hjN:ND=j:=by omega
     have hall:l.cs.take j=l.cs:=by rw[<- hjN,HND.out,List.take_length]
     rw[hall] at HS
     have hlen:=HDL.out j hj
     rw[hall] at hlen
     have HBH:Hid _:=dbehind_is w1.heap.size w1.heap.size go noX (pDone wn l.fr l.cs) wr HS.out (by omega) (by omega)
     have HBG:Hid _:=fun (w':World) (h:DStep wr w' w1.heap.size w1.heap.size go noX (pBehind (pDone wn l.fr l.cs)))=>h.go HS.out HBr.out (by omega)
     clear HS HBr hlen hall
     go_wp2_with fail
     refine Calls.mono HBH.out ?_
     rintro e w7 ⟨rfl,hst⟩
     obtain⟨go7,⟨v7,rows7,ao7,co7,e7,hD7,hN7,hrows7,hP7,_,_⟩,B7⟩:=HBG.out _ hst
     have HB7:Hid (Below w1.heap.size w1 w7):=B7
     have hs7:=B7.size
     have h49:=HLN.out.1
     have h1p:=HLN.out.2
     have hpl:(plan l wn).length=rows7.length+1:=by unfold plan pSink;rw[<- hrows7];simp
     have hplan:plan l wn=(rows7++[(sinkN l.tu (pBehind (pDone wn l.fr l.cs)).2,ao7,co7)]).map (·.1):=by unfold plan pSink;rw[<- hrows7];simp
     have hadd:=add_is (sinkN l.tu (pBehind (pDone wn l.fr l.cs)).2) ao7 co7 w1.heap.size w1.heap.size noX v7 (.slice ao7 (pBehind (pDone wn l.fr l.cs)).2.length co7) rows7 w7 0 rfl (by omega) hD7 hN7 hP7 (by omega) (Nat.le_refl _) (by omega)
     have hnv:nodeV (sinkN l.tu (pBehind (pDone wn l.fr l.cs)).2) ao7 (sinkN l.tu (pBehind (pDone wn l.fr l.cs)).2).ins.length co7=.agg #[.int .i64 5,.string tx,.int .i64 0,.string ⟨#[]⟩,.int .i64 0,.int .i64 0,.int .i64 0,.slice ao7 1 co7]:=by
      rw[show (sinkN l.tu (pBehind (pDone wn l.fr l.cs)).2).ins.length=1 from h1p,HTX.out]
      rfl
     rw[hnv] at hadd
     have HADD:Hid _:=hadd
     have HB8:Hid _:=fun (w':World) (h:Kept w1.heap.size v7.ownBlock noX w7 w')=>(show Below w1.heap.size w1 w' from B7.trans (h.below (by omega) (Nat.le_refl _) (fun g hg=>(hN7.base g hg).1) (fun g hg=>hg.elim)))
     clear hadd hnv
     rw[h1p] at hD7
     have hc1:w7.cell? ⟨w1.heap.size,1,none⟩=some (.slice ao7 1 co7):=by rw[cell_of_row _ _ _ _ _ _ hD7];rfl
     obtain⟨x0,x1,x2,x3,x4⟩:=(HLR.out.below B7 hs1).cells
     have HPL:Hid _:=hplan
     have HPN:Hid _:=hpl
     clear hst HBH HBG hplan hpl hN7 hP7 hrows7 hD7 B7 HLN h49
     go_wp2_with fail
     refine Calls.mono HADD.out ?_
     rintro e w8 ⟨v8,b8,rfl,q1,q2,q3,q4,q5,q6,q7⟩
     have hb8:=HB8.out _ q6
     obtain⟨a8,c8,hv8,_,_⟩:=q2.form
     have hl8:(rows7++[(sinkN l.tu (pBehind (pDone wn l.fr l.cs)).2,ao7,co7)]).length=(plan l wn).length:=by rw[HPN.out];simp
     rw[hl8] at hv8
     subst hv8
     have d0:w8.cell? ⟨w1.heap.size,0,none⟩=some (.slice a8 (plan l wn).length c8):=by rw[cell_of_row _ _ _ _ _ _ q1];rfl
     obtain⟨y0,y1,y2,y3,y4⟩:=(HLR.out.below hb8 hs1).cells
     have hrn:=(NO.setR q2 (a:=⟨w.heap.size+1,0,none⟩) hs1 y3 (.slice a8 (plan l wn).length c8)).nodes
     rw[<- HPL.out] at hrn
     have HRN:Hid _:=hrn
     have HBF:Hid (Below w.heap.size w (w8.setCell ⟨w.heap.size+1,0,none⟩ (.slice a8 (plan l wn).length c8))):=(HBB.out.trans (hb8.mono HBB.out.size)).setCell (by simp) _
     clear q1 q2 q3 q4 q5 q6 q7 hb8 hrn HADD HB8 HPL HPN hl8 x0 x1 x2 x3 x4 hc1
     go_wp2_with fail
     (try simp only[Exit.inBlock,Exit.then])
     refine bodyPost_ret (v:=.tuple #[.agg #[.slice a8 (plan l wn).length c8],.int .i64 0]) ?_ rfl ⟨a8,c8,rfl,HRN.out,HBF.out⟩
     rw[results_cell_tmp rfl]
     go_simp
theorem plan_is (l:SLine) (W:Int) (af ad:Option Addr) (cf cd:Nat) (w:World) (hf:Reads w (.slice af l.fr.length cf) l.fr.length (l.fr.map S)) (hd:RCmds w (.slice ad l.cs.length cd) l.cs) (hfit:FitsL l) :
 Calls Tryz.prog 28 #[.agg #[.slice af l.fr.length cf,.slice ad l.cs.length cd,.string ⟨l.tu.toArray⟩],.int .i64 W] w fun e w'=>PlanEnd w (planT l W) e w':=by
 by_cases h:lchk l≠0\/W<1\/5<W
 . exact plan_err l W af ad cf cd w hf hd hfit h
 .
  have h0:lchk l=0:=by by_cases e:lchk l=0;exact e;exact absurd (Or.inl e) h
  have h1:¬(W<1\/5<W):=fun e=>h (Or.inr e)
  obtain⟨n,rfl⟩:=Int.eq_ofNat_of_zero_le (show 0<=W by omega)
  rw[planT_ok h0 h1]
  exact plan_ok l n (by omega) af ad cf cd w hf hd hfit h0
end Go.Proofs.YtllgglolcgdehaaGreatDoor
namespace Go.Gs
open Go.RowKit Go.ChangeShapes Go.WideShapes Go.ChangeAt
set_option linter.unusedVariables false
variable {P:Program} {H:Type} {enc:TypeId × Value->H} {W:World} {base:Nat} {held:Bool} {fuel:Nat} {t e:TypeId} {v:Value} {x:DataW H × List MemPlace}
theorem add_plainP {b off j:Nat}:(⟨b,off,none⟩:Addr).add j=⟨b,off+j,none⟩:=by unfold Addr.add;split <;> simp_all
theorem row_of_open {k:IntKind} (ht:P.underlying t=some (.slice e)) (he:P.underlying e=some (.int k)) (hc:P.cellsOf e=1)
 (hf:DataW.trod enc P W base (fun _=>true) held fuel t [v]=some x) :
 ∃(zs:List Int) (a:Option Addr) (cap:Nat),v=.slice a zs.length cap/\Reads W (.slice a zs.length cap) zs.length (zs.map (Value.int k))/\(a=none->cap=0) /\ ∀z∈zs,(Lit.int k z).wf=true:=by
 rcases open_ints ht he hc hf with ⟨hcs,_⟩ | ⟨ad,l,c,zs,hcs,_,hl,hm,hz,_,hcell,hwz⟩
 . simp at hcs
   subst hcs
   exact⟨[],none,0,rfl,⟨rfl,none,0,rfl,Nat.le_refl _,by simp,fun h=>absurd rfl h⟩,fun _=>rfl,by simp⟩
 .
  simp at hcs
  subst hcs
  have hz':zs.length=c:=by simpa using hz
  have hbl:(zs.take l).length=l:=by rw[List.length_take];omega
  refine⟨zs.take l,some ad,c,by rw[hbl],⟨by rw[List.length_map],some ad,c,by rw[hbl],by omega,hm,fun h0=>?_⟩,(fun h=>by cases h),fun z hzm=>hwz z (List.mem_of_mem_take hzm)⟩
  rw[hbl] at h0
  obtain⟨b,off,spot⟩:=ad
  have h00:=hcell 0 (by omega)
  have hspot:spot=none:=by simpa[Addr.add] using World.cell?_spot h00
  subst hspot
  refine⟨b,off,rfl,fun j u hu=>?_⟩
  have hj:j<l:=by
   have:=(gSm hu).1
   simp at this
   omega
  have hjz:j<zs.length:=by omega
  have hcj:=hcell j hjz
  rw[add_plainP] at hcj
  rw[hcj]
  simp only[List.getElem?_map,List.getElem?_take,hj,if_true,gEl hjz,Option.map_some,Option.some.injEq] at hu
  rw[<- hu]
  simp[hjz]
end Go.Gs
