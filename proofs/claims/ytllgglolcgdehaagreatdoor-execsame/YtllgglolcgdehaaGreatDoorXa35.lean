/- What the developers' Eval does. -/
import Derived.Test.YtllgglolcgdehaaGreatDoorXa22
set_option maxRecDepth 100000
set_option maxHeartbeats 16000000
namespace Go.Proofs.YtllgglolcgdehaaGreatDoor
open Go.RowKit Go.Gs
set_option linter.unusedVariables false
theorem infoBlG:(Tryz.prog.info? 74).map (fun i=>(i.zero,i.size,i.bytes))=some (some (.slice none 0 0),1,24):=by kernel_rfl
theorem coming_in {W:World} {bx:Nat} {x0 x1 x2 x3 x4 x5 x6 x7:Value} (n:SNode) (ai:Option Addr) (ci CB OB N:Nat) (outs:List (List (List UInt8))) (hc:W.cell? ⟨CB,0,none⟩=some (.slice (some ⟨OB,0,none⟩) N N)) (ho:ROuts W OB N outs) (hN60:N<=60) (hp:RPorts W (.slice ai n.ins.length ci) n.ins) (h5:n.ins.length<=5)
 (hok:∀p∈n.ins,∃(i k:Nat) (o:List (List UInt8)) (b:List UInt8),p=((i:Int),(k:Int))/\outs[i]? = some o/\o[k]? = some b) (h8:Cells8 W bx x0 x1 x2 x3 x4 x5 x6 x7) :
 Calls Tryz.prog 94 #[nodeV n ai n.ins.length ci,.pointer (some ⟨CB,0,none⟩)] W fun e w'=>∃r,e=.returned r/\Hid (RList w' r U (n.ins.map (portAt outs)))/\Hid (Below W.heap.size W w')/\w'.cell? ⟨bx,0,none⟩=some x0/\w'.cell? ⟨bx,1,none⟩=some x1/\w'.cell? ⟨bx,2,none⟩=some x2/\w'.cell? ⟨bx,3,none⟩=some x3/\w'.cell? ⟨bx,4,none⟩=some x4/\w'.cell? ⟨bx,5,none⟩=some x5/\w'.cell? ⟨bx,6,none⟩=some x6/\w'.cell? ⟨bx,7,none⟩=some x7:=by
 refine (coming_is n ai ci CB OB N outs W hc ho hN60 hp h5 hok).mono ?_
 rintro e w' ⟨r,rfl,h1,h2⟩
 obtain⟨y0,y1,y2,y3,y4,y5,y6,y7⟩:=h8.kept h2
 exact⟨r,rfl,h1,h2,y0,y1,y2,y3,y4,y5,y6,y7⟩
theorem gbox_keep {w w':World} {a:Value} {t:TypeId} (hb:Below (w.alloc (.cells #[a] t)).heap.size (w.alloc (.cells #[a] t)) w'):w'.cell? ⟨w.heap.size,0,none⟩=some a:=gbox_cell (by simpa using hb)
theorem eval_is (ns:List SNode) (an ao:Option Addr) (capn cap:Nat) (fs:List SFile) (w:World) (hr:RNodes w (.slice an ns.length capn) ns) (hfit:∀n∈ns,FitsN n) (hf:RFiles w (.slice ao fs.length cap) fs) (hff:∀f∈fs,FitsF f) (hE:KnownE w) :
 Calls Tryz.prog 29 #[.agg #[.slice an ns.length capn],.slice ao fs.length cap] w fun e w'=>GetEnd w (evalS ns fs) e w':=by
 have hle:=rnodes_le hr
 have HCG:Hid _:=fun (W:World) (h:Below w.heap.size w W)=>gcheck_is ns an capn W (hr.below h) hfit
 have HCF:Hid _:=fun (W:World) (h:Below w.heap.size w W)=>fcheck_is ao cap fs W (hf.below h) hff
 have HR:Hid (RNodes w (.slice an ns.length capn) ns):=hr
 have HFit:Hid (∀n∈ns,FitsN n):=hfit
 have HF:Hid (RFiles w (.slice ao fs.length cap) fs):=hf
 have HE:Hid (KnownE w):=hE
 obtain⟨N,hN⟩:∃N,N=ns.length:=⟨_,rfl⟩
 have HN:Hid (N=ns.length):=hN
 obtain⟨NF,hNF⟩:∃N,N=fs.length:=⟨_,rfl⟩
 have HNF:Hid (NF=fs.length):=hNF
 obtain⟨gk,hgk⟩:∃z,z=gchk ns:=⟨_,rfl⟩
 have HGK:Hid (gk=gchk ns):=hgk
 obtain⟨fk,hfk⟩:∃z,z=fchk fs:=⟨_,rfl⟩
 have HFK:Hid (fk=fchk fs):=hfk
 rw[<- hN,<- hgk] at HCG
 rw[<- hNF,<- hfk] at HCF
 rw[<- hN] at HR hle
 rw[<- hNF] at HF
 rw[<- hN,<- hNF]
 clear hr hfit hf hff hE hN hNF hgk hfk
 go_enter Tryz.func29,Tryz.ntmps29
 go_wp2_with fail
 have hQ:=HCG.out _ (box_of (w:=w) (o:=.cells #[.slice an N capn] 24))
 refine Calls.mono hQ ?_
 rintro e w1 ⟨rfl,hb1⟩
 have hg1:=gbox_keep hb1
 have HB1:Hid (Below w.heap.size w w1):=box_of.trans (hb1.mono (by simp))
 clear hQ hb1 HCG
 by_cases hg0:gk=0
 .
  subst hg0
  obtain⟨hN60,_,hN0,_⟩:=gchk_zero HGK.out.symm
  rw[<- HN.out] at hN60 hN0
  go_wp2_with fail
  have hQ:=HCF.out w1 HB1.out
  refine Calls.mono hQ ?_
  rintro e w2 ⟨rfl,hb2⟩
  have hg2:=(hb2.cell (bLt w1 _ hg1)).trans hg1
  have HB2:Hid (Below w.heap.size w w2):=HB1.out.trans (hb2.mono HB1.out.size)
  clear hQ hb2 HCF hg1 HB1
  by_cases hf0:fk=0
  .
   subst hf0
   obtain⟨i1,hi',hy0,hy1,hy2⟩:=info_parts infoBlG
   have hb4:i1.bytes*N<=281474976710656:=by rw[hy2];omega
   have hb5:N<=maxLen:=by unfold maxLen;omega
   have hsf:=fun (a:Addr) (c:Array Value) (w:World)=>run_store Tryz.prog w a (.func (.func 94) #[] c) .plain rfl
   go_wp2_with (at_make;refine wpList_make_full _ rfl (.tmp 27) (.tmp 27) 117 rfl w2.heap.size 74 i1 (.slice none 0 0) 1 Tryz.underlying117 hi' hy0 hy1 .i64 .i64 _ _ N rfl rfl rfl rfl hb4 hb5 (Nat.le_refl _) ?_)
   intro w3 hout3 hgrow3
   have hb23:Below w2.heap.size w2 w3:=below_grown hgrow3 (Nat.le_refl _)
   have hg3:=(hb23.cell (bLt w2 _ hg2)).trans hg2
   have HRO3:Hid (ROuts w3 w2.heap.size N []):=(show ROuts _ _ _ _ by
    refine⟨List.replicate N (.slice none 0 0),?_,by simp,by simp,fun j o hj=>by simp at hj,fun j _ hj=>by rw[List.getElem?_replicate,if_pos hj]⟩
    have:=(row_of_owns hout3).1
    rw[toList_madeCells_one] at this
    exact this)
   have HB23:Hid (Below w2.heap.size w2 w3):=hb23
   have hg4:=(box_of (w:=w3) (o:=.cells #[.slice (some ⟨w2.heap.size,0,none⟩) N N] 117)).cell (bLt w3 _ hg3) |>.trans hg3
   have hlt23:w2.heap.size<w3.heap.size:=HRO3.out.lt
   have eg:∀args w,(callFunc 94 args).run Tryz.prog w=.ok (.enter 94 args) w:=enters_of Tryz.func94 (by kernel_rfl) rfl
   clear hout3 hgrow3 hb23
   go_wp2_with fail
   go_loopw [33] (fun i wr=>∃k:Nat,k<=N/\i=.int .i64 k/\Hid (ROuts wr w2.heap.size N (outsL fs [] (ns.take k)))/\Hid (wr.cell? ⟨w3.heap.size,0,none⟩=some (.slice (some ⟨w2.heap.size,0,none⟩) N N))/\Hid (Below w2.heap.size w2 wr)) (fun i _=>N-(intOf i).toNat)
   case atStart=>exact⟨0,Nat.zero_le _,rfl,HRO3.out.below box_of,(show _=_ by rw[cell_of_row _ _ _ _ _ _ (heap_alloc_new w3 _)];rfl),HB23.out.trans (box_of.mono HB23.out.size)⟩
   case round=>
    clear HRO3 HB23 hg3 hg4
    obtain⟨k,hk,rfl,HRO,HCB,hbel⟩:=hrel
    have HBW:Hid (Below w.heap.size w wr):=HB2.out.trans (hbel.out.mono HB2.out.size)
    have hgr:=(hbel.out.cell (bLt w2 _ hg2)).trans hg2
    have hcb:=HCB.out
    have hfs4:∀f∈fs,f.b.length<=4000:=fun f hf=>(from_all (fchk_zero HFK.out.symm).2 f hf).2
    have hkl:(outsL fs [] (ns.take k)).length=k:=by rw[outsL_len,List.length_take];have:=HN.out;simp;omega
    by_cases hlt:k<N
    .
     obtain⟨n,hn⟩:∃n,ns[k]? = some n:=⟨_,gEl (by have:=HN.out;omega)⟩
     obtain⟨b,off,ai,ci,rfl,hNA,HP⟩:=HR.out.at hn
     obtain⟨c0,c1,c2,c3,c4,c5,c6,c7⟩:=hNA.below HBW.out
     obtain⟨r1,r2,r3,r4⟩:=right_node HGK.out.symm hfs4 hn
     have hfn:=HFit.out n (mGt hn)
     have hil:=rports_le HP
     have hout:=outs_take fs ns k hn
     have hok:∀p∈n.ins,∃(i q:Nat) (o:List (List UInt8)) (b:List UInt8),p=((i:Int),(q:Int))/\(outsL fs [] (ns.take k))[i]? = some o/\o[q]? = some b:=fun p hp=>port_there HGK.out.symm hfs4 (Nat.le_refl _) (by have:=HN.out;omega) (r2 p hp)
     have HCO:Hid _:=fun (W:World) (hb:Below wr.heap.size wr W) (bx:Nat) (x0 x1 x2 x3 x4 x5 x6 x7:Value) (h8:Cells8 W bx x0 x1 x2 x3 x4 x5 x6 x7)=>coming_in n ai ci w3.heap.size w2.heap.size N (outsL fs [] (ns.take k)) ((hb.cell (bLt wr _ hcb)).trans hcb) (HRO.out.below hb) hN60 (HP.below (HBW.out.trans (hb.mono HBW.out.size))) (right_ins r1).1 hok h8
     have HMD:Hid _:=fun (W:World) (hb:Below w.heap.size w W) (r:Value) (hr:RList W r U (n.ins.map (portAt (outsL fs [] (ns.take k)))))=>made_is n ai ao ci cap fs r (n.ins.map (portAt (outsL fs [] (ns.take k)))) W r1 hfn hr (by simp) r4 (by rw[<- HNF.out];exact HF.out.below hb) HFK.out.symm (HE.out.below hb)
     rw[<- HNF.out] at HMD
     obtain⟨O,hO⟩:∃O,O=nodeMade n fs (n.ins.map (portAt (outsL fs [] (ns.take k)))):=⟨_,rfl⟩
     rw[<- hO] at HMD hout
     have HOUT:Hid _:=hout
     obtain⟨OL,hOL⟩:∃z,z=O.length:=⟨_,rfl⟩
     have HOL:Hid (OL=O.length):=hOL
     generalize n.ins.map (portAt (outsL fs [] (ns.take k)))=INS at *
     unfold nodeV at HCO HMD
     generalize (⟨n.file.toArray⟩:ByteArray)=fx at *
     generalize (⟨n.c.word.toArray⟩:ByteArray)=wx0 at *
     generalize n.c.kind=ck at *
     generalize n.c.n=cn at *
     generalize n.how=hw at *
     generalize n.wide=wd at *
     generalize n.kind=nk at *
     generalize n.ins.length=ni at *
     have hbx:Below wr.heap.size wr (wr.alloc (.cells #[.int .i64 nk,.string fx,.int .i64 ck,.string wx0,.int .i64 cn,.int .i64 hw,.int .i64 wd,.slice ai ni ci] 73)).drew:=box_of.drew
     have HBX:Hid _:=hbx
     have HC1:Hid _:=HCO.out _ hbx wr.heap.size _ _ _ _ _ _ _ _ (nbox_cells (w:=wr) (a:=.int .i64 nk) (b:=.string fx) (c:=.int .i64 ck) (d:=.string wx0) (e:=.int .i64 cn) (f:=.int .i64 hw) (g:=.int .i64 wd) (h:=.slice ai ni ci) (t:=73) (Below.refl _ _).drew)
     clear hbx HCO hNA HP r1 r2 r3 r4 hfn hok hout hO hOL hn
     go_upto_region 12 with fail
     go_region_with (first
      | (go_at_fn 94;refine Calls.mono HC1.out ?_;rintro e w5 ⟨r5,rfl,R5,B5,y0,y1,y2,y3,y4,y5,y6,y7⟩)
      | (go_at_call 95;refine (HMD.out w5 (HBW.out.trans ((HBX.out.trans (B5.out.mono HBX.out.size)).mono HBW.out.size)) r5 R5.out).mono ?_;rintro e w6 hM6;obtain⟨ar,cr,rfl,R6,Q6,B6⟩:=madeEnd_outs hM6))
     all_goals
      have t5:=HBX.out.trans (B5.out.mono HBX.out.size)
      have HX6:Hid (Below wr.heap.size wr w6):=t5.trans (B6.mono t5.size)
      have hq0:=(HX6.out.cell (bLt wr _ hcb)).trans hcb
      have hRO6:=HRO.out.below HX6.out
      obtain⟨hq1,hq2⟩:=routs_cell hRO6 (by rw[hkl];exact hlt)
      have hlt6:w2.heap.size<w5.heap.size:=Nat.lt_of_lt_of_le HRO.out.lt t5.size
      have hst:=routs_step hRO6 (by rw[hkl];exact hlt) R6 (fun q m c hq=>by have:=Q6 q m c hq;omega)
      rw[hkl,<- HOUT.out,<- HOL.out] at hst
      rw[hkl] at hq1 hq2
      rw[<- HOL.out]
      have HRO7:Hid _:=hst
      have HCB7:Hid ((w6.setCell ⟨w2.heap.size,k,none⟩ (.slice ar OL cr)).cell? ⟨w3.heap.size,0,none⟩=some (.slice (some ⟨w2.heap.size,0,none⟩) N N)):=(show _=_ by
       rw[World.cell?_setCell_other (h:=fun e=>by injection e with e _ _;omega)]
       exact hq0)
      have HB7:Hid (Below w2.heap.size w2 (w6.setCell ⟨w2.heap.size,k,none⟩ (.slice ar OL cr))):=(hbel.out.trans (HX6.out.mono hbel.out.size)).setCell (Nat.le_refl _) _
      clear t5 B5 B6 R5 R6 Q6 hM6 y0 y1 y2 y3 y4 y5 y6 y7 hRO6 hst HMD HC1 HRO HCB hcb c0 c1 c2 c3 c4 c5 c6 c7 hgr HX6
      go_wp2_with fail
      go_roundw
      case rel=>exact⟨k+1,by omega,by go_num,HRO7,HCB7,HB7⟩
      case measure=>simp[intOf];omega
    .
     have hkN:k=N:=by omega
     subst hkN
     obtain⟨m,rfl⟩:∃m,k=m+1:=⟨k-1,by omega⟩
     obtain⟨n,hn⟩:∃n,ns[m]? = some n:=⟨_,gEl (by have:=HN.out;omega)⟩
     obtain⟨b,off,ai,ci,rfl,hNA,HP⟩:=HR.out.at hn
     obtain⟨c0,c1,c2,c3,c4,c5,c6,c7⟩:=hNA.below HBW.out
     obtain⟨r1,r2,r3,r4⟩:=right_node HGK.out.symm hfs4 hn
     have hn5:n.kind=5:=r3.2 HN.out
     have hil:=rports_le HP
     have hni1:n.ins.length=1:=(right_ins r1).2 (.inr (.inr hn5))
     obtain⟨p0,hp0⟩:∃p0,n.ins=[p0]:=by
      match hh:n.ins,hni1 with
      | [p0],_=>exact⟨p0,rfl⟩
     have htk:ns.take (m+1)=ns:=List.take_of_length_le (by have:=HN.out;omega)
     have hok:∀p∈n.ins,∃(i q:Nat) (o:List (List UInt8)) (b:List UInt8),p=((i:Int),(q:Int))/\(outsL fs [] (ns.take (m+1)))[i]? = some o/\o[q]? = some b:=fun p hp=>port_there HGK.out.symm hfs4 (Nat.le_succ m) (by have:=HN.out;omega) (r2 p hp)
     have HCO:Hid _:=fun (W:World) (hb:Below wr.heap.size wr W)=>coming_is n ai ci w3.heap.size w2.heap.size (m+1) (outsL fs [] (ns.take (m+1))) W ((hb.cell (bLt wr _ hcb)).trans hcb) (HRO.out.below hb) hN60 (HP.below (HBW.out.trans (hb.mono HBW.out.size))) (right_ins r1).1 hok
     have HSU:Hid (sunk ns fs=portAt (outsL fs [] (ns.take (m+1))) p0):=(show _=_ by rw[sunk_last (by rw[<- HN.out];exact hn),htk,hp0];rfl)
     have HEV:Hid (evalS ns fs=(sunk ns fs,0)):=evalS_ok HGK.out.symm HFK.out.symm
     rw[hp0] at HCO
     simp only[List.map_cons,List.map_nil] at HCO
     rw[<- HSU.out] at HCO
     have hni0:n.ins.length=([p0]:List (Int × Int)).length:=by rw[hp0]
     unfold nodeV at HCO
     rw[hn5] at HCO c0
     rw[hni1] at c7
     generalize sunk ns fs=D at *
     generalize (⟨n.file.toArray⟩:ByteArray)=fx at *
     generalize (⟨n.c.word.toArray⟩:ByteArray)=wx0 at *
     generalize n.c.kind=ck at *
     generalize n.c.n=cn at *
     generalize n.how=hw at *
     generalize n.wide=wd at *
     simp only[List.length_cons,List.length_nil,Nat.zero_add] at HCO
     have hm1:((m+1:Nat):Int)-1=(m:Int):=by omega
     clear hNA HP r1 r2 r3 r4 hok hn HSU htk hni0 hni1 hp0 HRO HCB hcb hn5
     go_wp2_with fail
     have hQ:=HCO.out _ (box_of (w:=wr) (o:=.cells #[.int .i64 5,.string fx,.int .i64 ck,.string wx0,.int .i64 cn,.int .i64 hw,.int .i64 wd,.slice ai 1 ci] 73))
     refine Calls.mono hQ ?_
     rintro e w5 ⟨r5,rfl,R5,hb5'⟩
     have HB5:Hid (Below w.heap.size w w5):=HBW.out.trans ((box_of.trans (hb5'.mono (by simp))).mono HBW.out.size)
     clear c0 c1 c2 c3 c4 c5 c6 c7 hQ HCO hb5'
     obtain⟨av,cv,rfl,hv1,hv2⟩:=R5.shape
     obtain⟨vb,vo,au,cu,rfl,hcell,hru⟩:=R5.at (k:=0) (p:=D) rfl
     have HRU:Hid (Reads w5 (.slice au D.length cu) D.length (D.map U)):=hru
     simp only[List.length_cons,List.length_nil,Nat.zero_add,Nat.add_zero] at hv1 hcell ⊢
     unfold maxLen at hv2
     obtain⟨DL,hDL⟩:∃DL,DL=D.length:=⟨_,rfl⟩
     rw[<- hDL] at hcell
     clear R5 hru
     go_wp2_with fail
     go_ret2
     refine⟨au,cu,?_,?_,HB5.out⟩
     . rw[HEV.out];rfl
     . rw[HEV.out];exact HRU.out
  . have HR0:Hid (evalS ns fs=([],fk)):=(show _=_ by rw[evalS_files HGK.out.symm (by rw[<- HFK.out];exact hf0),<- HFK.out])
    go_wp2_with fail
    go_ret2
    exact getEnd_none HR0.out rfl HB2.out
 . have HR0:Hid (evalS ns fs=([],gk)):=(show _=_ by rw[evalS_bad (by rw[<- HGK.out];exact hg0),<- HGK.out])
   go_wp2_with fail
   go_ret2
   exact getEnd_none HR0.out rfl HB1.out
end Go.Proofs.YtllgglolcgdehaaGreatDoor
