/- What the developers' checkGiven and Check of a machine do, over what graph.Check and CheckFiles do. -/
import Derived.Test.YtllgglolcgdehaaGreatDoorXa23
set_option maxRecDepth 100000
set_option maxHeartbeats 16000000
namespace Go.Proofs.YtllgglolcgdehaaGreatDoor
open Go.RowKit Go.Gs
set_option linter.unusedVariables false
theorem badFirst_at {l:List Int} {k:Nat} {z:Int} (h:∀x∈l.take k,x=0) (hk:l[k]? = some z) (hz:z≠0):badFirst l=z:=by
 unfold badFirst
 have hkl:k<l.length:=(gSm hk).1
 have e:l=l.take k++(z::l.drop (k+1)):=by
  rw[gEl hkl] at hk
  injection hk with hk
  rw[<- hk,<- List.drop_eq_getElem_cons hkl,List.take_append_drop]
 rw[e,List.find?_append]
 have h1:(l.take k).find? (fun x=>x != 0)=none:=by
  rw[List.find?_eq_none]
  intro x hx
  simp[h x hx]
 rw[h1,List.find?_cons,show (z != 0)=true by simpa using hz]
 rfl
theorem procsChk_at:∀(ns:List SNode) (ps:List SProc) (k:Nat) (n:SNode) (p:SProc),(∀(i:Nat) (n:SNode) (p:SProc),i<k->ns[i]? = some n->ps[i]? = some p->procChk n p=0)->ns[k]? = some n->ps[k]? = some p->procChk n p≠0->procsChk ns ps=procChk n p
 | [],_,k,n,p,_,hn,_,_=>by simp at hn
 | _::_,[],k,n,p,_,_,hp,_=>by simp at hp
 | m::ns,q::ps,0,n,p,_,hn,hp,hz=>by
  simp at hn hp
  subst hn hp
  unfold procsChk
  rw[if_pos hz]
 | m::ns,q::ps,k+1,n,p,h,hn,hp,hz=>by
  unfold procsChk
  rw[if_neg (by simp[h 0 m q (by omega) rfl rfl])]
  exact procsChk_at ns ps k n p (fun i n p hi hn hp=>h (i+1) n p (by omega) (by simpa using hn) (by simpa using hp)) (by simpa using hn) (by simpa using hp) hz
theorem checkGiven_is (an af:Option Addr) (cn cf:Nat) (ns:List SNode) (fs:List SFile) (w:World)
 (hG:∀W,Below w.heap.size w W->Calls Tryz.prog 93 #[.agg #[.slice an ns.length cn]] W fun e w'=>e=.returned (.int .i64 (gchk ns))/\Below W.heap.size W w')
 (hF:∀W,Below w.heap.size w W->Calls Tryz.prog 39 #[.slice af fs.length cf] W fun e w'=>e=.returned (.int .i64 (fchk fs))/\Below W.heap.size W w') :
 Calls Tryz.prog 58 #[.agg #[.slice an ns.length cn],.slice af fs.length cf] w fun e w'=>e=.returned (.int .i64 (if gchk ns≠0 then gchk ns else fchk fs))/\Below w.heap.size w w':=by
 have HG:Hid _:=hG
 have HF:Hid _:=hF
 generalize ns.length=N at *
 generalize fs.length=NF at *
 generalize gchk ns=G at *
 generalize fchk fs=F at *
 clear hG hF
 go_enter Tryz.func58,Tryz.ntmps58
 go_wp2_with fail
 have hQ:=HG.out _ (boxE (w:=w) (o:=.cells #[.slice an N cn] 24))
 refine Calls.mono hQ ?_
 rintro e w1 ⟨rfl,hb1⟩
 have HB1:Hid (Below w.heap.size w w1):=boxE.trans (hb1.mono boxE.size)
 clear hQ hb1 HG
 by_cases h:G=0
 .
  subst h
  go_wp2_with fail
  have hQ:=HF.out w1 HB1.out
  refine Calls.mono hQ ?_
  rintro e w2 ⟨rfl,hb2⟩
  have HB2:Hid (Below w.heap.size w w2):=HB1.out.trans (hb2.mono HB1.out.size)
  clear hQ hb2 HF HB1
  go_wp2_with fail
  go_ret
  exact⟨rfl,HB2.out⟩
 . have HP:Hid ((if G≠0 then G else F)=G):=(show _=_ by rw[if_pos h])
   go_wp2_with fail
   go_ret
   exact⟨by first | rfl | (rw[HP.out];rfl),HB1.out⟩
theorem int_boundsE {z:Int} (h:(Lit.int .i64 z).wf=true):-9223372036854775808<=z/\z<=9223372036854775807:=by
 simpa[Lit.wf,IntKind.min,IntKind.max,IntKind.signed,IntKind.bits] using h
theorem boxM {w w':World} {a b c d e:Value} {t:TypeId} (h:Below (w.alloc (.cells #[a,b,c,d,e] t)).heap.size (w.alloc (.cells #[a,b,c,d,e] t)) w') :
 w'.heap[w.heap.size]? = some (.cells #[a,b,c,d,e] t (0,0)):=(h.block _ (by simp)).trans (heap_alloc_new w _)
theorem cells5 {w:World} {k:Nat} {a b c d e:Value} {t:TypeId} (h:w.heap[k]? = some (.cells #[a,b,c,d,e] t (0,0))) :
 w.cell? ⟨k,0,none⟩=some a/\w.cell? ⟨k,1,none⟩=some b/\w.cell? ⟨k,2,none⟩=some c/\w.cell? ⟨k,3,none⟩=some d/\w.cell? ⟨k,4,none⟩=some e:=by
 refine⟨?_,?_,?_,?_,?_⟩
 all_goals
  rw[cell_of_row _ _ _ _ _ _ h]
  rfl
theorem mchk_given {M:SMach} (h:(if gchk M.ns≠0 then gchk M.ns else fchk M.fs)≠0):mchk M=(if gchk M.ns≠0 then gchk M.ns else fchk M.fs):=by
 unfold mchk
 by_cases h1:gchk M.ns≠0
 . rw[if_pos h1,if_pos h1]
 . rw[if_neg h1] at h
   rw[if_neg h1,if_pos h,if_neg h1]
theorem given_ok {ns:List SNode} {fs:List SFile} (h:(if gchk ns≠0 then gchk ns else fchk fs)=0):gchk ns=0/\fchk fs=0:=by
 by_cases h1:gchk ns≠0
 . rw[if_pos h1] at h;exact absurd h h1
 . rw[if_neg h1] at h;exact⟨by simpa using h1,h⟩
theorem mchk_form {M:SMach} (h1:gchk M.ns=0) (h2:fchk M.fs=0) (h3:M.ps.length≠M.ns.length\/M.pipes.length≠(allIns M.ns).length):mchk M=4:=by
 unfold mchk;rw[if_neg (by simp[h1]),if_neg (by simp[h2]),if_pos h3]
theorem mchk_pipes {M:SMach} (h1:gchk M.ns=0) (h2:fchk M.fs=0) (h3:¬(M.ps.length≠M.ns.length\/M.pipes.length≠(allIns M.ns).length)) (h4:badFirst (M.pipes.map pchk)≠0):mchk M=badFirst (M.pipes.map pchk):=by
 unfold mchk;rw[if_neg (by simp[h1]),if_neg (by simp[h2]),if_neg h3,if_pos h4]
theorem mchk_procs {M:SMach} (h1:gchk M.ns=0) (h2:fchk M.fs=0) (h3:¬(M.ps.length≠M.ns.length\/M.pipes.length≠(allIns M.ns).length)) (h4:badFirst (M.pipes.map pchk)=0) (h5:procsChk M.ns M.ps≠0):mchk M=procsChk M.ns M.ps:=by
 unfold mchk;rw[if_neg (by simp[h1]),if_neg (by simp[h2]),if_neg h3,if_neg (by simp[h4]),if_pos h5]
theorem mchk_end {M:SMach} (h1:gchk M.ns=0) (h2:fchk M.fs=0) (h3:¬(M.ps.length≠M.ns.length\/M.pipes.length≠(allIns M.ns).length)) (h4:badFirst (M.pipes.map pchk)=0) (h5:procsChk M.ns M.ps=0):mchk M=if 40000<M.sunk.length then 2 else 0:=by
 unfold mchk;rw[if_neg (by simp[h1]),if_neg (by simp[h2]),if_neg h3,if_neg (by simp[h4]),if_neg (by simp[h5])]
theorem mcheck_is (an af ax ap aS:Option Addr) (cn cf cx cp cs:Nat) (M:SMach) (w:World) (hM:RMach w an af ax ap aS cn cf cx cp cs M) (hfit:FitsM M)
 (hG:∀W,Below w.heap.size w W->Calls Tryz.prog 93 #[.agg #[.slice an M.ns.length cn]] W fun e w'=>e=.returned (.int .i64 (gchk M.ns))/\Below W.heap.size W w')
 (hF:∀W,Below w.heap.size w W->Calls Tryz.prog 39 #[.slice af M.fs.length cf] W fun e w'=>e=.returned (.int .i64 (fchk M.fs))/\Below W.heap.size W w') :
 Calls Tryz.prog 18 #[machV an af ax ap aS M cn cf cx cp cs] w fun e w'=>e=.returned (.int .i64 (mchk M))/\Below w.heap.size w w':=by
 have HM:Hid _:=hM
 have HFit:Hid (FitsM M):=hfit
 have HGv:Hid _:=fun (W:World) (hW:Below w.heap.size w W)=>checkGiven_is an af cn cf M.ns M.fs W (fun V hV=>hG V (hW.trans (hV.mono hW.size))) (fun V hV=>hF V (hW.trans (hV.mono hW.size)))
 have hnl:=rnodes_le hM.nodes
 have hfl:=rfiles_le hM.files
 have hxl:=rpipes_le hM.pipes
 have hpl:=rprocs_le hM.procs
 have hsl:=(reads_leP hM.sunk).1
 have HC0:Hid _:=fun h=>mchk_given (M:=M) h
 have HC1:Hid _:=fun h1 h2 h3=>mchk_form (M:=M) h1 h2 h3
 have HC2:Hid _:=fun h1 h2 h3 h4=>mchk_pipes (M:=M) h1 h2 h3 h4
 have HC3:Hid _:=fun h1 h2 h3 h4 h5=>mchk_procs (M:=M) h1 h2 h3 h4 h5
 have HC4:Hid _:=fun h1 h2 h3 h4 h5=>mchk_end (M:=M) h1 h2 h3 h4 h5
 unfold machV
 generalize mchk M=Z at *
 obtain⟨N,hN⟩:∃N,N=M.ns.length:=⟨_,rfl⟩
 obtain⟨NF,hNF⟩:∃N,N=M.fs.length:=⟨_,rfl⟩
 obtain⟨NX,hNX⟩:∃N,N=M.pipes.length:=⟨_,rfl⟩
 obtain⟨NP,hNP⟩:∃N,N=M.ps.length:=⟨_,rfl⟩
 obtain⟨NS,hNS⟩:∃N,N=M.sunk.length:=⟨_,rfl⟩
 have HN:Hid (N=M.ns.length):=hN
 have HNX:Hid (NX=M.pipes.length):=hNX
 have HNP:Hid (NP=M.ps.length):=hNP
 have HNS:Hid (NS=M.sunk.length):=hNS
 rw[<- hN,<- hNF] at HGv
 rw[<- hN,<- hNX,<- hNP] at HC1 HC2 HC3 HC4
 rw[<- hNS] at HC4
 rw[<- hN] at hnl
 rw[<- hNF] at hfl
 rw[<- hNX] at hxl
 rw[<- hNP] at hpl
 rw[<- hNS] at hsl
 rw[<- hN,<- hNF,<- hNX,<- hNP,<- hNS]
 have RN:Hid (RNodes w (.slice an N cn) M.ns):=(show RNodes _ _ _ by rw[hN];exact hM.nodes)
 have RX:Hid (RPipes w (.slice ax NX cx) M.pipes):=(show RPipes _ _ _ by rw[hNX];exact hM.pipes)
 have RP:Hid (RProcs w (.slice ap NP cp) M.ps):=(show RProcs _ _ _ by rw[hNP];exact hM.procs)
 obtain⟨GV,hGV⟩:∃z,z=(if gchk M.ns≠0 then gchk M.ns else fchk M.fs):=⟨_,rfl⟩
 have HGV:Hid (GV=(if gchk M.ns≠0 then gchk M.ns else fchk M.fs)):=hGV
 rw[<- hGV] at HGv HC0
 clear hM hfit hG hF hN hNF hNX hNP hNS hGV
 go_enter Tryz.func18,Tryz.ntmps18
 go_wp2_with fail
 have hQ:=HGv.out _ (boxE (w:=w) (o:=.cells #[.slice an N cn,.slice af NF cf,.slice ax NX cx,.slice ap NP cp,.slice aS NS cs] 30))
 refine Calls.mono hQ ?_
 rintro e w1 ⟨rfl,hb1⟩
 have hx1:=boxM hb1
 have HB1:Hid (Below w.heap.size w w1):=boxE.trans (hb1.mono boxE.size)
 clear hQ hb1 HGv
 have HX1:Hid _:=hx1
 obtain⟨c0,c1,c2,c3,c4⟩:=cells5 hx1
 by_cases hgv:GV=0
 .
  subst hgv
  obtain⟨hg0,hf0⟩:=given_ok HGV.out.symm
  have HG0:Hid (gchk M.ns=0):=hg0
  have HF0:Hid (fchk M.fs=0):=hf0
  have g:=right_graph hg0
  have HRG:Hid (RightG M.ns):=g
  have h60:N<=60:=by rw[HN.out];exact g.le60
  have HIN:Hid _:=fun (W:World) (hW:Below w.heap.size w W)=>inputs_is an cn M.ns W ((RNodes.below (by rw[<- HN.out];exact RN.out) hW)) (fun n hn=>(right_ins (g.node n hn)).1) g.le60
  rw[<- HN.out] at HIN
  obtain⟨NA,hNA⟩:∃z,z=(allIns M.ns).length:=⟨_,rfl⟩
  have HNA:Hid (NA=(allIns M.ns).length):=hNA
  rw[<- hNA] at HC1 HC2 HC3 HC4 HIN
  have k0:=fun d os=>cell_regrown c0 d os
  have k1:=fun d os=>cell_regrown c1 d os
  have k2:=fun d os=>cell_regrown c2 d os
  have k3:=fun d os=>cell_regrown c3 d os
  have k4:=fun d os=>cell_regrown c4 d os
  have cF:∀d os,Calls Tryz.prog 66 #[.agg #[.slice an N cn]] (Go.Sort.grow (redrawn w1 d) os) fun e w''=>e=.returned (.int .i64 (NA:Int)) /\ ∃p:Regrown,w''=Go.Sort.grow (redrawn w1 p.d) p.os:=fun d os=>Calls.regrown_of (HIN.out _ (HB1.out.trans ((below_regrown w1 d os).mono HB1.out.size)))
  clear HC0 hg0 hf0 g hNA HGV HIN hx1
  by_cases h3:NP=N
  .
   subst h3
   by_cases h4:NX=NA
   .
    subst h4
    have hnf:¬(NP≠NP\/NX≠NX):=fun h=>h.elim (fun h=>h rfl) (fun h=>h rfl)
    have HD2:Hid _:=fun h=>HC2.out HG0.out HF0.out hnf h
    have HD3:Hid _:=fun h h'=>HC3.out HG0.out HF0.out hnf h h'
    have HD4:Hid _:=fun h h'=>HC4.out HG0.out HF0.out hnf h h'
    clear HC1 HC2 HC3 HC4 hnf
    go_upto_region 4 with fail
    refine wp_region_quiet_below (by kernel_rfl) (by kernel_rfl) ?_
    repeat (first | go_big_quiet_step (exact cF _ _) | quiet_step (exact cF _ _))
    refine wpQuiet_nil ?_
    intro _ hw'
    obtain⟨⟨dq,osq⟩,hw''⟩:=hw'
    subst hw''
    have HB3:Hid (Below w.heap.size w (Go.Sort.grow (redrawn w1 dq) osq)):=HB1.out.trans ((below_regrown w1 dq osq).mono HB1.out.size)
    have x3:(Go.Sort.grow (redrawn w1 dq) osq).heap[w.heap.size]? = some (.cells #[.slice an NP cn,.slice af NF cf,.slice ax NX cx,.slice ap NP cp,.slice aS NS cs] 30 (0,0)):=((below_regrown w1 dq osq).block _ (aSm HX1.out).1).trans HX1.out
    clear cF k0 k1 k2 k3 k4 HB1 HX1 c0 c1 c2 c3 c4
    generalize (Go.Sort.grow (redrawn w1 dq) osq)=w3 at *
    have X3:Hid _:=x3
    obtain⟨c0,c1,c2,c3,c4⟩:=cells5 x3
    clear x3
    go_wp2_with fail
    go_loopw [38] (fun i wr=>∃k:Nat,k<=NX/\i=.int .i64 k/\Hid (Below w3.heap.size w3 wr)/\Hid (∀x∈(M.pipes.map pchk).take k,x=0)) (fun i _=>NX-(intOf i).toNat)
    case atStart=>exact⟨0,Nat.zero_le _,rfl,Below.refl _ _,(show ∀x∈(M.pipes.map pchk).take 0,x=0 by simp)⟩
    case round=>
     obtain⟨k,hk,rfl,hbel,hz⟩:=hrel
     have HBW:Hid (Below w.heap.size w wr):=HB3.out.trans (hbel.out.mono HB3.out.size)
     have x4:=(hbel.out.block _ (aSm X3.out).1).trans X3.out
     have X4:Hid _:=x4
     clear c0 c1 c2 c3 c4
     obtain⟨c0,c1,c2,c3,c4⟩:=cells5 x4
     clear x4
     by_cases hlt:k<NX
     .
      obtain⟨x,hx⟩:∃x,M.pipes[k]? = some x:=⟨_,gEl (by have:=HNX.out;omega)⟩
      obtain⟨b,off,ab,cb,rfl,e0,e1,e2,e3,HRd⟩:=(RPipes.below RX.out HBW.out).at hx
      have hxl2:=(reads_leP HRd).1
      have HCK:Hid _:=fun (W:World)=>pcheck_is ab x.b.length cb x.room x.closed x.shut W hxl2
      obtain⟨z,hzz⟩:∃z,z=pck x.b.length x.room x.shut:=⟨_,rfl⟩
      have hzk:(M.pipes.map pchk)[k]? = some z:=by rw[List.getElem?_map,hx,hzz];rfl
      have HZK:Hid ((M.pipes.map pchk)[k]? = some z):=hzk
      rw[<- hzz] at HCK
      generalize x.b.length=XL at *
      generalize x.room=xr at *
      generalize x.closed=xc at *
      generalize x.shut=xs at *
      clear hx HRd hzz hzk
      go_wp2_with fail
      refine Calls.mono (HCK.out _) ?_
      rintro e w4 ⟨rfl,hb4⟩
      have HB4:Hid (Below wr.heap.size wr w4):=boxE.trans (hb4.mono boxE.size)
      clear hb4 HCK e0 e1 e2 e3
      by_cases h0:z=0
      .
       subst h0
       have HZ2:Hid (∀x∈(M.pipes.map pchk).take (k+1),x=0):=(show ∀x∈(M.pipes.map pchk).take (k+1),x=0 by
        intro x hx
        rw[List.take_add_one,HZK.out] at hx
        rcases List.mem_append.1 hx with hx | hx
        . exact hz.out x hx
        . simpa using hx)
       clear hz
       go_wp2_with fail
       go_roundw
       case rel=>exact⟨k+1,by omega,by go_num,hbel.out.trans (HB4.out.mono hbel.out.size),HZ2⟩
       case measure=>simp[intOf];omega
      . have HP:Hid (Z=z):=(show _=_ by
         have hbf:=badFirst_at hz.out HZK.out h0
         rw[HD2.out (by rw[hbf];exact h0),hbf])
        clear hz HD2 HD3 HD4
        go_wp2_with fail
        go_ret
        exact⟨by rw[HP.out];rfl,HBW.out.trans (HB4.out.mono HBW.out.size)⟩
     .
      have hbz:badFirst (M.pipes.map pchk)=0:=badFirst_zero (fun x hx=>hz.out x (by rw[List.take_of_length_le (by rw[List.length_map];have:=HNX.out;omega)];exact hx))
      have HE3:Hid _:=fun h=>HD3.out hbz h
      have HE4:Hid _:=fun h=>HD4.out hbz h
      clear hz HD2 HD3 HD4 hbz X3 HB3 hbel RX
      generalize wr=wa at *
      go_wp2_with fail
      go_loopw [52] (fun i wr=>∃k:Nat,k<=NP/\i=.int .i64 k/\Hid (Below wa.heap.size wa wr)/\Hid (∀(i:Nat) (n:SNode) (p:SProc),i<k->M.ns[i]? = some n->M.ps[i]? = some p->procChk n p=0)) (fun i _=>NP-(intOf i).toNat)
      case atStart=>exact⟨0,Nat.zero_le _,rfl,Below.refl _ _,(show ∀(i:Nat) (n:SNode) (p:SProc),i<0->M.ns[i]? = some n->M.ps[i]? = some p->procChk n p=0 from fun i n p h=>absurd h (by omega))⟩
      case round=>
       obtain⟨k,hk,rfl,hbel,hz⟩:=hrel
       have HBV:Hid (Below w.heap.size w wr):=HBW.out.trans (hbel.out.mono HBW.out.size)
       have x5:=(hbel.out.block _ (aSm X4.out).1).trans X4.out
       have X5:Hid _:=x5
       clear c0 c1 c2 c3 c4
       obtain⟨c0,c1,c2,c3,c4⟩:=cells5 x5
       clear x5
       by_cases hlt:k<NP
       .
        obtain⟨n,hn⟩:∃n,M.ns[k]? = some n:=⟨_,gEl (by have:=HN.out;omega)⟩
        obtain⟨p,hp⟩:∃p,M.ps[k]? = some p:=⟨_,gEl (by have:=HNP.out;omega)⟩
        obtain⟨b,off,ai,ci,rfl,hNA',HPo⟩:=(RNodes.below RN.out HBV.out).at hn
        obtain⟨b2,off2,ag,cg,ao,co,rfl,p0,p1,p2,p3,p4,HRg,HRo⟩:=(RProcs.below RP.out HBV.out).at hp
        have hil:=rports_le HPo
        have hps:=int_boundsE (HFit.out.pos p (mGt hp))
        have HCP:Hid _:=fun (W:World) (hW:Below wr.heap.size wr W)=>checkProcess_is n ai ci p ag ao cg co W (HRg.below hW) (HRo.below hW) (by omega) hps
        obtain⟨c8,c9,c10,c11,c12,c13,c14,c15⟩:=hNA'
        obtain⟨z,hzz⟩:∃z,z=procChk n p:=⟨_,rfl⟩
        have HZA:Hid (z≠0->procsChk M.ns M.ps=z):=(show z≠0->procsChk M.ns M.ps=z from fun h=>by rw[hzz];exact procsChk_at M.ns M.ps k n p hz.out hn hp (by rw[<- hzz];exact h))
        have HZB:Hid (z=0 -> ∀(i:Nat) (n:SNode) (p:SProc),i<k+1->M.ns[i]? = some n->M.ps[i]? = some p->procChk n p=0):=(show z=0 -> ∀(i:Nat) (n:SNode) (p:SProc),i<k+1->M.ns[i]? = some n->M.ps[i]? = some p->procChk n p=0 from fun h i n' p' hi hn' hp'=>by
         by_cases e:i=k
         . subst e
           rw[hn] at hn'
           rw[hp] at hp'
           injection hn' with hn'
           injection hp' with hp'
           subst hn' hp'
           rw[<- hzz];exact h
         . exact hz.out i n' p' (by omega) hn' hp')
        unfold nodeV at HCP
        rw[<- hzz] at HCP
        generalize (⟨n.file.toArray⟩:ByteArray)=fx at *
        generalize (⟨n.c.word.toArray⟩:ByteArray)=wx0 at *
        generalize n.c.kind=ck at *
        generalize n.c.n=cn' at *
        generalize n.how=hw at *
        generalize n.wide=wd at *
        generalize n.kind=nk at *
        generalize n.ins.length=IL at *
        generalize p.got.length=GL at *
        generalize p.out.length=OL at *
        generalize p.pos=pp at *
        generalize p.rd=rd at *
        generalize p.ov=ov at *
        clear hn hp HPo HRg HRo hzz hz hil hps
        obtain⟨W,hW⟩:∃W,W=wr.alloc (.cells #[.int .i64 nk,.string fx,.int .i64 ck,.string wx0,.int .i64 cn',.int .i64 hw,.int .i64 wd,.slice ai IL ci] 73):=⟨_,rfl⟩
        have hBW:Below wr.heap.size wr W:=by rw[hW];exact boxE
        have HBW':Hid (Below wr.heap.size wr W):=hBW
        have xN:W.heap[wr.heap.size]? = some (.cells #[.int .i64 nk,.string fx,.int .i64 ck,.string wx0,.int .i64 cn',.int .i64 hw,.int .i64 wd,.slice ai IL ci] 73 (0,0)):=by rw[hW];exact heap_alloc_new _ _
        have a0:=cellsAt xN 0
        have a1:=cellsAt xN 1
        have a2:=cellsAt xN 2
        have a3:=cellsAt xN 3
        have a4:=cellsAt xN 4
        have a5:=cellsAt xN 5
        have a6:=cellsAt xN 6
        have a7:=cellsAt xN 7
        simp at a0 a1 a2 a3 a4 a5 a6 a7
        have d3:=(hBW.cell (bLt wr _ c3)).trans c3
        have r0:=(hBW.cell (bLt wr _ p0)).trans p0
        have r1:=(hBW.cell (bLt wr _ p1)).trans p1
        have r2:=(hBW.cell (bLt wr _ p2)).trans p2
        have r3:=(hBW.cell (bLt wr _ p3)).trans p3
        have r4:=(hBW.cell (bLt wr _ p4)).trans p4
        have m0:=fun d os=>cell_regrown a0 d os
        have m1:=fun d os=>cell_regrown a1 d os
        have m2:=fun d os=>cell_regrown a2 d os
        have m3:=fun d os=>cell_regrown a3 d os
        have m4:=fun d os=>cell_regrown a4 d os
        have m5:=fun d os=>cell_regrown a5 d os
        have m6:=fun d os=>cell_regrown a6 d os
        have m7:=fun d os=>cell_regrown a7 d os
        have m8:=fun d os=>cell_regrown d3 d os
        have s0:=fun d os=>cell_regrown r0 d os
        have s1:=fun d os=>cell_regrown r1 d os
        have s2:=fun d os=>cell_regrown r2 d os
        have s3:=fun d os=>cell_regrown r3 d os
        have s4:=fun d os=>cell_regrown r4 d os
        have cG:∀d os,Calls Tryz.prog 67 #[.agg #[.int .i64 nk,.string fx,.int .i64 ck,.string wx0,.int .i64 cn',.int .i64 hw,.int .i64 wd,.slice ai IL ci],.agg #[.slice ag GL cg,.int .i64 pp,.slice ao OL co,.bool rd,.bool ov]] (Go.Sort.grow (redrawn W d) os) fun e w''=>e=.returned (.int .i64 z) /\ ∃p:Regrown,w''=Go.Sort.grow (redrawn W p.d) p.os:=fun d os=>Calls.regrown_of (HCP.out _ (HBW'.out.trans ((below_regrown W d os).mono HBW'.out.size)))
        clear HCP xN a0 a1 a2 a3 a4 a5 a6 a7 d3 r0 r1 r2 r3 r4 hBW
        go_upto_region 16 with fail
        rw[<- hW]
        clear hW
        refine wp_region_quiet_below (by kernel_rfl) (by kernel_rfl) ?_
        repeat (first | go_big_quiet_step (exact cG _ _) | quiet_step (exact cG _ _))
        refine wpQuiet_nil ?_
        intro _ hw'
        obtain⟨⟨dq,osq⟩,hw''⟩:=hw'
        subst hw''
        have HB6:Hid (Below wr.heap.size wr (Go.Sort.grow (redrawn W dq) osq)):=HBW'.out.trans ((below_regrown W dq osq).mono HBW'.out.size)
        clear cG m0 m1 m2 m3 m4 m5 m6 m7 m8 s0 s1 s2 s3 s4 HBW' c0 c1 c2 c3 c4 c8 c9 c10 c11 c12 c13 c14 c15 p0 p1 p2 p3 p4
        generalize (Go.Sort.grow (redrawn W dq) osq)=w6 at *
        by_cases h0:z=0
        . subst h0
          have HZ2:Hid _:=HZB.out rfl
          clear HZA HZB
          go_wp2_with fail
          go_roundw
          case rel=>exact⟨k+1,by omega,by go_num,hbel.out.trans (HB6.out.mono hbel.out.size),HZ2⟩
          case measure=>simp[intOf];omega
        . have HP:Hid (Z=z):=(show _=_ by
           have h1:=HZA.out h0
           rw[HE3.out (by rw[h1];exact h0),h1])
          clear HZA HZB HE3 HE4
          go_wp2_with fail
          go_ret
          exact⟨by rw[HP.out];rfl,HBV.out.trans (HB6.out.mono HBV.out.size)⟩
       .
        have HP:Hid (Z=if 40000<NS then 2 else 0):=HE4.out (procsChk_zero _ _ (fun i n p hn hp=>hz.out i n p (by have:=(gSm hp).1;have:=HNP.out;omega) hn hp))
        clear hz HE3 HE4
        go_wp2_with fail
        refine Calls.mono (tooMany_is _ _ _ _) ?_
        rintro e w7 ⟨rfl,hb7⟩
        have HB7:Hid (Below w.heap.size w w7):=HBV.out.trans (hb7.mono HBV.out.size)
        clear hb7
        by_cases hs4:40000<NS
        . rw[decide_eq_true hs4]
          rw[if_pos hs4] at HP
          go_wp2_with fail
          go_ret
          exact⟨by rw[HP.out];rfl,HB7.out⟩
        . rw[decide_eq_false hs4]
          rw[if_neg hs4] at HP
          go_wp2_with fail
          go_ret
          exact⟨by rw[HP.out];rfl,HB7.out⟩
   .
    have h4':¬(NX:Int)=NA:=by omega
    have HP:Hid (Z=4):=HC1.out HG0.out HF0.out (.inr h4)
    clear HC1 HC2 HC3 HC4
    go_upto_region 4 with fail
    refine wp_region_quiet_below (by kernel_rfl) (by kernel_rfl) ?_
    repeat (first | go_big_quiet_step (exact cF _ _) | quiet_step (exact cF _ _))
    refine wpQuiet_nil ?_
    intro _ hw'
    obtain⟨⟨dq,osq⟩,hw''⟩:=hw'
    subst hw''
    have HB3:Hid (Below w.heap.size w (Go.Sort.grow (redrawn w1 dq) osq)):=HB1.out.trans ((below_regrown w1 dq osq).mono HB1.out.size)
    have x3:(Go.Sort.grow (redrawn w1 dq) osq).heap[w.heap.size]? = some (.cells #[.slice an NP cn,.slice af NF cf,.slice ax NX cx,.slice ap NP cp,.slice aS NS cs] 30 (0,0)):=((below_regrown w1 dq osq).block _ (aSm HX1.out).1).trans HX1.out
    clear cF k0 k1 k2 k3 k4 HB1 HX1 c0 c1 c2 c3 c4
    generalize (Go.Sort.grow (redrawn w1 dq) osq)=w3 at *
    clear x3
    go_wp2_with fail
    go_ret
    exact⟨by rw[HP.out];rfl,HB3.out⟩
  .
   have h3':¬(NP:Int)=N:=by omega
   have HP:Hid (Z=4):=HC1.out HG0.out HF0.out (.inl h3)
   clear HC1 HC2 HC3 HC4
   go_upto_region 4 with fail
   refine wp_region_quiet_below (by kernel_rfl) (by kernel_rfl) ?_
   repeat (first | go_big_quiet_step (exact cF _ _) | quiet_step (exact cF _ _))
   refine wpQuiet_nil ?_
   intro _ hw'
   obtain⟨⟨dq,osq⟩,hw''⟩:=hw'
   subst hw''
   have HB3:Hid (Below w.heap.size w (Go.Sort.grow (redrawn w1 dq) osq)):=HB1.out.trans ((below_regrown w1 dq osq).mono HB1.out.size)
   have x3:(Go.Sort.grow (redrawn w1 dq) osq).heap[w.heap.size]? = some (.cells #[.slice an N cn,.slice af NF cf,.slice ax NX cx,.slice ap NP cp,.slice aS NS cs] 30 (0,0)):=((below_regrown w1 dq osq).block _ (aSm HX1.out).1).trans HX1.out
   clear cF k0 k1 k2 k3 k4 HB1 HX1 c0 c1 c2 c3 c4
   generalize (Go.Sort.grow (redrawn w1 dq) osq)=w3 at *
   clear x3
   go_wp2_with fail
   go_ret
   exact⟨by rw[HP.out];rfl,HB3.out⟩
 .
  have HP:Hid (Z=GV):=HC0.out hgv
  clear HC0 HC1 HC2 HC3 HC4
  go_wp2_with fail
  go_ret
  exact⟨by rw[HP.out];rfl,HB1.out⟩
end Go.Proofs.YtllgglolcgdehaaGreatDoor
