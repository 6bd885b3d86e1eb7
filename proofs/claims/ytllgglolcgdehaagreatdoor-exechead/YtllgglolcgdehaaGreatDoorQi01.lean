/- What the developers' Eval does. -/
import Derived.Test.YtllgglolcgdehaaGreatDoorQAb
import Derived.Test.YtllgglolcgdehaaGreatDoorQi00
set_option maxRecDepth 100000
set_option maxHeartbeats 16000000
namespace Go.Proofs.YtllgglolcgdehaaGreatDoor
open Go.RowKit Go.Gs
set_option linter.unusedVariables false
theorem ct2:(Tryz.prog.info? 74).map (fun i=>(i.zero,i.size,i.bytes))=some (some (.slice none 0 0),1,24):=by kernel_rfl
theorem cb2 {W:World} {bx:Nat} {x0 x1 x2 x3 x4 x5 x6 x7:Value} (n:SNode) (ai:Option Addr) (ci CB OB N:Nat) (outs:List (List (List UInt8))) (hc:W.cell? ⟨CB,0,none⟩=some (.slice (some ⟨OB,0,none⟩) N N)) (ho:ai1 W OB N outs) (Ew:N<=60) (hp:E2 W (.slice ai n.ins.length ci) n.ins) (h5:n.ins.length<=5)
 (hok:∀p∈n.ins,∃(i k:Nat) (o:List (List UInt8)) (b:List UInt8),p=((i:Int),(k:Int))/\outs[i]? = some o/\o[k]? = some b) (h8:Q9 W bx x0 x1 x2 x3 x4 x5 x6 x7) :
 Calls Tryz.prog 94 #[D2 n ai n.ins.length ci,.pointer (some ⟨CB,0,none⟩)] W fun e w'=>∃r,e=.returned r/\Hid (RList w' r U (n.ins.map (j3 outs)))/\Hid (Bq W w')/\w'.cell? ⟨bx,0,none⟩=some x0/\w'.cell? ⟨bx,1,none⟩=some x1/\w'.cell? ⟨bx,2,none⟩=some x2/\w'.cell? ⟨bx,3,none⟩=some x3/\w'.cell? ⟨bx,4,none⟩=some x4/\w'.cell? ⟨bx,5,none⟩=some x5/\w'.cell? ⟨bx,6,none⟩=some x6/\w'.cell? ⟨bx,7,none⟩=some x7:=by refine (bg1 n ai ci CB OB N outs W hc ho Ew hp h5 hok).mono ?_;rintro e w' ⟨r,rfl,h1,h2⟩;obtain⟨y0,y1,y2,y3,y4,y5,y6,y7⟩:=h8.kept h2;exact⟨r,rfl,h1,h2,y0,y1,y2,y3,y4,y5,y6,y7⟩
theorem cb3 {w w':World} {a:Value} {t:TypeId} (hb:Below (w.alloc (.cells #[a] t)).heap.size (w.alloc (.cells #[a] t)) w'):w'.cell? ⟨w.heap.size,0,none⟩=some a:=aI6 (by simpa using hb)
theorem ct3 (ns:List SNode) (an ao:Option Addr) (capn cap:Nat) (fs:List SFile) (w:World) (hr:A2 w (.slice an ns.length capn) ns) (Ad:∀n∈ns,M4 n) (hf:j9 w (.slice ao fs.length cap) fs) (hff:∀f∈fs,M3 f) (hE:t8 w) :
 Calls Tryz.prog 29 #[.agg #[.slice an ns.length capn],.slice ao fs.length cap] w fun e w'=>ah7 w (aw0 ns fs) e w':=by
 have hle:=ac3 hr;have HCG:Hid _:=fun (W:World) (h:Bq w W)=>aI7 ns an capn W (hr.below h) Ad;have HCF:Hid _:=fun (W:World) (h:Bq w W)=>aa9 ao cap fs W (hf.below h) hff;have HR:=qH hr;have En:=qH Ad;have HF:=qH hf;have HE:=qH hE;obtain⟨N,hN⟩:=qE ns.length;have HN:=qH hN;obtain⟨NF,hNF⟩:=qE fs.length;have HNF:=qH hNF;obtain⟨gk,hgk⟩:=qE (gchk ns);have HGK:=qH hgk;obtain⟨fk,hfk⟩:=qE (fchk fs);have HFK:=qH hfk;rw[<- hN,<- hgk] at HCG;rw[<- hNF,<- hfk] at HCF;rw[<- hN] at HR hle;rw[<- hNF] at HF;rw[<- hN,<- hNF];clear hr Ad hf hff hE hN hNF hgk hfk;go_enter Tryz.func29,Tryz.ntmps29;go_wp2_with fail;have hQ:=HCG.out _ (b9 (w:=w) (o:=.cells #[.slice an N capn] 24));refine Calls.mono hQ ?_;rintro e w1 ⟨rfl,hb1⟩;have hg1:=cb3 hb1;have HB1:Hid (Bq w w1):=b9.trans (hb1.mono (by simp));clear hQ hb1 HCG;by_cases hg0:gk=0
 .
  subst hg0;obtain⟨Ew,_,hN0,_⟩:=al6 HGK.out.symm;rw[<- HN.out] at Ew hN0;go_wp2_with fail;have hQ:=HCF.out w1 HB1.out;refine Calls.mono hQ ?_;rintro e w2 ⟨rfl,hb2⟩;have hg2:=(hb2.cell (bLt w1 _ hg1)).trans hg1;have HB2:Hid (Bq w w2):=HB1.out.trans (hb2.mono HB1.out.size);clear hQ hb2 HCF hg1 HB1;by_cases hf0:fk=0
  .
   subst hf0;obtain⟨i1,hi',hy0,hy1,hy2⟩:=info_parts ct2;have hb4:i1.bytes*N<=281474976710656:=by rw[hy2];omega
   have hb5:N<=maxLen:=by unfold maxLen;omega
   have hsf:=fun (a:Addr) (c:Array Value) (w:World)=>run_store Tryz.prog w a (.func (.func 94) #[] c) .plain rfl;go_wp2_with (at_make;refine wpList_make_full _ rfl (.tmp 27) (.tmp 27) 117 rfl w2.heap.size 74 i1 (.slice none 0 0) 1 Tryz.underlying117 hi' hy0 hy1 .i64 .i64 _ _ N rfl rfl rfl rfl hb4 hb5 (Nat.le_refl _) ?_)
   intro w3 Cj Ba;have Fv:Bq w2 w3:=below_grown Ba (Nat.le_refl _);have hg3:=(Fv.cell (bLt w2 _ hg2)).trans hg2
   have Xb:Hid (ai1 w3 w2.heap.size N []):=(show ai1 _ _ _ _ by
    refine⟨List.replicate N (.slice none 0 0),?_,by simp,by simp,fun j o hj=>by simp at hj,fun j _ hj=>by rw[List.getElem?_replicate,if_pos hj]⟩
    have:=(V7 Cj).1
    rw[toList_madeCells_one] at this
    exact this)
   have Jn:=qH Fv;have hg4:=(b9 (w:=w3) (o:=.cells #[.slice (some ⟨w2.heap.size,0,none⟩) N N] 117)).cell (bLt w3 _ hg3) |>.trans hg3
   have hlt23:w2.heap.size<w3.heap.size:=Xb.out.lt;have eg:∀args w,(callFunc 94 args).run Tryz.prog w=.ok (.enter 94 args) w:=enters_of Tryz.func94 (by kernel_rfl) rfl;clear Cj Ba Fv;go_wp2_with fail;go_loopw [33] (fun i wr=>∃k:Nat,k<=N/\i=.int .i64 k/\Hid (ai1 wr w2.heap.size N (j5 fs [] (ns.take k)))/\Hid (wr.cell? ⟨w3.heap.size,0,none⟩=some (.slice (some ⟨w2.heap.size,0,none⟩) N N))/\Hid (Bq w2 wr)) (fun i _=>N-(intOf i).toNat)
   case atStart=>exact⟨0,Nat.zero_le _,rfl,Xb.out.below b9,(show _=_ by rw[cell_of_row _ _ _ _ _ _ (heap_alloc_new w3 _)];rfl),Jn.out.trans (b9.mono Jn.out.size)⟩
   case round=>
    clear Xb Jn hg3 hg4;obtain⟨k,hk,rfl,HRO,HCB,Aa⟩:=hrel;have HBW:Hid (Bq w wr):=HB2.out.trans (Aa.out.mono HB2.out.size);have hgr:=(Aa.out.cell (bLt w2 _ hg2)).trans hg2;have hcb:=HCB.out;have Rf:∀f∈fs,f.b.length<=4000:=fun f hf=>(J2 (I0 HFK.out.symm).2 f hf).2;have hkl:(j5 fs [] (ns.take k)).length=k:=by rw[I7,List.length_take];have:=HN.out;simp;omega
    by_cases hlt:k<N
    .
     obtain⟨n,hn⟩:∃n,ns[k]? = some n:=⟨_,gEl (by have:=HN.out;omega)⟩;obtain⟨b,off,ai,ci,rfl,hNA,HP⟩:=HR.out.at hn;obtain⟨c0,c1,c2,c3,c4,c5,c6,c7⟩:=hNA.below HBW.out;obtain⟨r1,r2,r3,r4⟩:=ah3 HGK.out.symm Rf hn;have hfn:=En.out n (mGt hn);have hil:=L2 HP;have Ai:=al5 fs ns k hn;have hok:∀p∈n.ins,∃(i q:Nat) (o:List (List UInt8)) (b:List UInt8),p=((i:Int),(q:Int))/\(j5 fs [] (ns.take k))[i]? = some o/\o[q]? = some b:=fun p hp=>aW8 HGK.out.symm Rf (Nat.le_refl _) (by have:=HN.out;omega) (r2 p hp);have HCO:Hid _:=fun (W:World) (hb:Bq wr W) (bx:Nat) (x0 x1 x2 x3 x4 x5 x6 x7:Value) (h8:Q9 W bx x0 x1 x2 x3 x4 x5 x6 x7)=>cb2 n ai ci w3.heap.size w2.heap.size N (j5 fs [] (ns.take k)) ((hb.cell (bLt wr _ hcb)).trans hcb) (HRO.out.below hb) Ew (HP.below (HBW.out.trans (hb.mono HBW.out.size))) (y9 r1).1 hok h8
     have HMD:Hid _:=fun (W:World) (hb:Bq w W) (r:Value) (hr:RList W r U (n.ins.map (j3 (j5 fs [] (ns.take k)))))=>bM3 n ai ao ci cap fs r (n.ins.map (j3 (j5 fs [] (ns.take k)))) W r1 hfn hr (by simp) r4 (by rw[<- HNF.out];exact HF.out.below hb) HFK.out.symm (HE.out.below hb);rw[<- HNF.out] at HMD;obtain⟨O,hO⟩:=qE (i8 n fs (n.ins.map (j3 (j5 fs [] (ns.take k)))));rw[<- hO] at HMD Ai;have Qs:Hid _:=Ai;obtain⟨OL,hOL⟩:=qE O.length;have HOL:=qH hOL;generalize n.ins.map (j3 (j5 fs [] (ns.take k)))=INS at *;unfold D2 at HCO HMD;generalize (⟨n.file.toArray⟩:ByteArray)=fx at *;generalize (⟨n.c.word.toArray⟩:ByteArray)=wx0 at *;generalize n.c.kind=ck at *;generalize n.c.n=cn at *;generalize n.how=hw at *;generalize n.wide=wd at *;generalize n.kind=nk at *;generalize n.ins.length=ni at *
     have hbx:Bq wr (wr.alloc (.cells #[.int .i64 nk,.string fx,.int .i64 ck,.string wx0,.int .i64 cn,.int .i64 hw,.int .i64 wd,.slice ai ni ci] 73)).drew:=b9.drew;have HBX:Hid _:=hbx;have HC1:Hid _:=HCO.out _ hbx wr.heap.size _ _ _ _ _ _ _ _ (aa0 (w:=wr) (a:=.int .i64 nk) (b:=.string fx) (c:=.int .i64 ck) (d:=.string wx0) (e:=.int .i64 cn) (f:=.int .i64 hw) (g:=.int .i64 wd) (h:=.slice ai ni ci) (t:=73) (Below.refl _ _).drew);clear hbx HCO hNA HP r1 r2 r3 r4 hfn hok Ai hO hOL hn;go_upto_region 12 with fail
     go_region_with (first
      | (go_at_fn 94;refine Calls.mono HC1.out ?_;rintro e w5 ⟨r5,rfl,R5,B5,y0,y1,y2,y3,y4,y5,y6,y7⟩)
      | (go_at_call 95;refine (HMD.out w5 (HBW.out.trans ((HBX.out.trans (B5.out.mono HBX.out.size)).mono HBW.out.size)) r5 R5.out).mono ?_;rintro e w6 hM6;obtain⟨ar,cr,rfl,R6,Q6,B6⟩:=bn1 hM6))
     all_goals
      have t5:=HBX.out.trans (B5.out.mono HBX.out.size)
      have HX6:Hid (Bq wr w6):=t5.trans (B6.mono t5.size)
      have hq0:=(HX6.out.cell (bLt wr _ hcb)).trans hcb
      have Xc:=HRO.out.below HX6.out
      obtain⟨hq1,hq2⟩:=bJ5 Xc (by rw[hkl];exact hlt)
      have hlt6:w2.heap.size<w5.heap.size:=Nat.lt_of_lt_of_le HRO.out.lt t5.size
      have hst:=bJ4 Xc (by rw[hkl];exact hlt) R6 (fun q m c hq=>by have:=Q6 q m c hq;omega)
      rw[hkl,<- Qs.out,<- HOL.out] at hst
      rw[hkl] at hq1 hq2
      rw[<- HOL.out]
      have HRO7:Hid _:=hst
      have HCB7:Hid ((w6.setCell ⟨w2.heap.size,k,none⟩ (.slice ar OL cr)).cell? ⟨w3.heap.size,0,none⟩=some (.slice (some ⟨w2.heap.size,0,none⟩) N N)):=(show _=_ by
       rw[World.cell?_setCell_other (h:=fun e=>by injection e with e _ _;omega)]
       exact hq0)
      have HB7:Hid (Bq w2 (w6.setCell ⟨w2.heap.size,k,none⟩ (.slice ar OL cr))):=(Aa.out.trans (HX6.out.mono Aa.out.size)).setCell (Nat.le_refl _) _
      clear t5 B5 B6 R5 R6 Q6 hM6 y0 y1 y2 y3 y4 y5 y6 y7 Xc hst HMD HC1 HRO HCB hcb c0 c1 c2 c3 c4 c5 c6 c7 hgr HX6
      go_wp2_with fail
      go_roundw
      case rel=>exact⟨k+1,by omega,by go_num,HRO7,HCB7,HB7⟩
      case measure=>simp[intOf];omega
    .
     have hkN:k=N:=by omega
     subst hkN;obtain⟨m,rfl⟩:∃m,k=m+1:=⟨k-1,by omega⟩;obtain⟨n,hn⟩:∃n,ns[m]? = some n:=⟨_,gEl (by have:=HN.out;omega)⟩;obtain⟨b,off,ai,ci,rfl,hNA,HP⟩:=HR.out.at hn;obtain⟨c0,c1,c2,c3,c4,c5,c6,c7⟩:=hNA.below HBW.out;obtain⟨r1,r2,r3,r4⟩:=ah3 HGK.out.symm Rf hn;have hn5:n.kind=5:=r3.2 HN.out;have hil:=L2 HP;have Xd:n.ins.length=1:=(y9 r1).2 (.inr (.inr hn5));obtain⟨p0,hp0⟩:∃p0,n.ins=[p0]:=by
      match hh:n.ins,Xd with
      | [p0],_=>exact⟨p0,rfl⟩
     have htk:ns.take (m+1)=ns:=List.take_of_length_le (by have:=HN.out;omega);have hok:∀p∈n.ins,∃(i q:Nat) (o:List (List UInt8)) (b:List UInt8),p=((i:Int),(q:Int))/\(j5 fs [] (ns.take (m+1)))[i]? = some o/\o[q]? = some b:=fun p hp=>aW8 HGK.out.symm Rf (Nat.le_succ m) (by have:=HN.out;omega) (r2 p hp);have HCO:Hid _:=fun (W:World) (hb:Bq wr W)=>bg1 n ai ci w3.heap.size w2.heap.size (m+1) (j5 fs [] (ns.take (m+1))) W ((hb.cell (bLt wr _ hcb)).trans hcb) (HRO.out.below hb) Ew (HP.below (HBW.out.trans (hb.mono HBW.out.size))) (y9 r1).1 hok;have HSU:Hid (sunk ns fs=j3 (j5 fs [] (ns.take (m+1))) p0):=(show _=_ by rw[aw6 (by rw[<- HN.out];exact hn),htk,hp0];rfl);have HEV:Hid (aw0 ns fs=(sunk ns fs,0)):=aF8 HGK.out.symm HFK.out.symm;rw[hp0] at HCO;simp only[List.map_cons,List.map_nil] at HCO;rw[<- HSU.out] at HCO
     have hni0:n.ins.length=([p0]:List (Int × Int)).length:=by rw[hp0]
     unfold D2 at HCO;rw[hn5] at HCO c0;rw[Xd] at c7;generalize sunk ns fs=D at *;generalize (⟨n.file.toArray⟩:ByteArray)=fx at *;generalize (⟨n.c.word.toArray⟩:ByteArray)=wx0 at *;generalize n.c.kind=ck at *;generalize n.c.n=cn at *;generalize n.how=hw at *;generalize n.wide=wd at *;simp only[List.length_cons,List.length_nil,Nat.zero_add] at HCO;have hm1:((m+1:Nat):Int)-1=(m:Int):=by omega
     clear hNA HP r1 r2 r3 r4 hok hn HSU htk hni0 Xd hp0 HRO HCB hcb hn5;go_wp2_with fail;have hQ:=HCO.out _ (b9 (w:=wr) (o:=.cells #[.int .i64 5,.string fx,.int .i64 ck,.string wx0,.int .i64 cn,.int .i64 hw,.int .i64 wd,.slice ai 1 ci] 73));refine Calls.mono hQ ?_;rintro e w5 ⟨r5,rfl,R5,hb5'⟩;have HB5:Hid (Bq w w5):=HBW.out.trans ((b9.trans (hb5'.mono (by simp))).mono HBW.out.size);clear c0 c1 c2 c3 c4 c5 c6 c7 hQ HCO hb5';obtain⟨av,cv,rfl,hv1,hv2⟩:=R5.shape;obtain⟨vb,vo,au,cu,rfl,Ac,hru⟩:=R5.at (k:=0) (p:=D) rfl;have HRU:=qH hru;simp only[List.length_cons,List.length_nil,Nat.zero_add,Nat.add_zero] at hv1 Ac ⊢;unfold maxLen at hv2;obtain⟨DL,hDL⟩:=qE D.length;rw[<- hDL] at Ac;clear R5 hru;go_wp2_with fail;go_ret2;refine⟨au,cu,?_,?_,HB5.out⟩
     . rw[HEV.out];rfl
     . rw[HEV.out];exact HRU.out
  . have HR0:Hid (aw0 ns fs=([],fk)):=(show _=_ by rw[bz9 HGK.out.symm (by rw[<- HFK.out];exact hf0),<- HFK.out]);go_wp2_with fail;go_ret2;exact N8 HR0.out rfl HB2.out
 . have HR0:Hid (aw0 ns fs=([],gk)):=(show _=_ by rw[bZ5 (by rw[<- HGK.out];exact hg0),<- HGK.out]);go_wp2_with fail;go_ret2;exact N8 HR0.out rfl HB1.out
end Go.Proofs.YtllgglolcgdehaaGreatDoor
