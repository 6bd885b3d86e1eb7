/- What the developers' closure 'coming' does, and more. -/
import Derived.Lib.Bytealg
import Derived.Laws.Shifts
import Derived.Test.YtllgglolcgdehaaGreatDoorXa18
import Derived.Test.YtllgglolcgdehaaGreatDoorXa16
set_option maxRecDepth 100000
set_option maxHeartbeats 16000000
namespace Go.Proofs.YtllgglolcgdehaaGreatDoor
open Go.RowKit Go.Gs
set_option linter.unusedVariables false
theorem infoBsG:(Tryz.prog.info? 28).map (fun i=>(i.zero,i.size,i.bytes))=some (some (.slice none 0 0),1,24):=by kernel_rfl
def CRel (w wr:World) (bss:List (List UInt8)) (G i:Nat):Prop:=
 ∃vs:List Value,wr.heap[G]? = some (.cells vs.toArray 28 (0,0))/\vs.length=bss.length/\(∀(j:Nat) (p:List UInt8),j<i->bss[j]? = some p -> ∃u,vs[j]? = some u/\Reads wr u p.length (p.map U))/\(∀j,i<=j->j<bss.length->vs[j]? = some (.slice none 0 0))/\Below w.heap.size w wr
theorem slice_not_UG {l:List UInt8} {a:Option Addr} {n c:Nat}:Value.slice a n c∉l.map U:=by
 intro h
 obtain⟨x,_,e⟩:=List.mem_map.1 h
 cases e
theorem CRel.cell {w wr:World} {bss:List (List UInt8)} {G i:Nat} (h:CRel w wr bss G i) (hi:i<bss.length):wr.cell? ⟨G,i,none⟩=some (.slice none 0 0)/\wr.frozen? ⟨G,i,none⟩=false/\G<wr.heap.size:=by
 obtain⟨vs,h1,h2,h3,h4,h5⟩:=h
 refine⟨?_,frozen_of_row _ _ _ _ _ h1,?_⟩
 . rw[cell_of_row _ _ _ _ _ _ h1]
   simpa using h4 i (Nat.le_refl _) hi
 . rcases Nat.lt_or_ge G wr.heap.size with h | h
   . exact h
   . rw[Array.getElem?_eq_none h] at h1;cases h1
theorem CRel.below {w wr w1:World} {bss:List (List UInt8)} {G i:Nat} (h:CRel w wr bss G i) (hb:Below wr.heap.size wr w1) (hG:G<wr.heap.size):CRel w w1 bss G i:=by
 obtain⟨vs,h1,h2,h3,h4,h5⟩:=h
 refine⟨vs,by rw[hb.block G hG];exact h1,h2,fun j p hj hp=>?_,h4,h5.trans (hb.mono h5.size)⟩
 obtain⟨u,h6,h7⟩:=h3 j p hj hp
 exact⟨u,h6,h7.below hb⟩
theorem CRel.step {w wr:World} {bss:List (List UInt8)} {G i:Nat} {u:Value} {p:List UInt8} (h:CRel w wr bss G i) (hp:bss[i]? = some p) (hu:Reads wr u p.length (p.map U)) (hG:w.heap.size<=G):CRel w (wr.setCell ⟨G,i,none⟩ u) bss G (i+1):=by
 have hi:i<bss.length:=(gSm hp).1
 obtain⟨hc,_,_⟩:=h.cell hi
 obtain⟨vs,h1,h2,h3,h4,h5⟩:=h
 refine⟨vs.set i u,by rw[heap_setCell_same _ _ _ _ _ _ h1];simp,by simp[h2],fun j q hj hq=>?_,fun j hj hjl=>?_,h5.setCell hG _⟩
 .
  by_cases hji:i=j
  . subst hji
    rw[hp] at hq
    injection hq with hq
    subst hq
    exact⟨u,List.getElem?_set_self (by omega),hu.setCell hc u slice_not_UG⟩
  . obtain⟨u',h6,h7⟩:=h3 j q (by omega) hq
    exact⟨u',by rw[List.getElem?_set_ne hji];exact h6,h7.setCell hc u slice_not_UG⟩
 . rw[List.getElem?_set_ne (by omega)]
   exact h4 j (by omega) hjl
theorem CRel.done {w wr:World} {bss:List (List UInt8)} {G i:Nat} (h:CRel w wr bss G i) (hi:i=bss.length) (hn:bss.length<=1000):RList wr (.slice (some ⟨G,0,none⟩) bss.length bss.length) U bss:=by
 subst hi
 obtain⟨vs,h1,h2,h3,h4,h5⟩:=h
 refine⟨vs,⟨by simp[h2],_,_,rfl,by simp,by unfold maxLen;omega,fun _=>⟨G,0,rfl,fun j u hu=>?_⟩⟩,fun j p hj=>?_⟩
 . rw[Nat.zero_add,cell_of_row _ _ _ _ _ _ h1]
   simpa using hu
 . exact h3 j p (gSm hj).1 hj
def ROuts (w:World) (OB N:Nat) (outs:List (List (List UInt8))):Prop:=
 ∃us:List Value,w.heap[OB]? = some (.cells us.toArray 74 (0,0))/\us.length=N/\outs.length<=N/\(∀(j:Nat) o,outs[j]? = some o -> ∃u,us[j]? = some u/\RList w u U o /\ ∀a n c,u=.slice (some a) n c->a.block≠OB) /\
  ∀j,outs.length<=j->j<N->us[j]? = some (.slice none 0 0)
theorem ROuts.lt {w:World} {OB N:Nat} {outs:List (List (List UInt8))} (h:ROuts w OB N outs):OB<w.heap.size:=by
 obtain⟨us,h1,_⟩:=h
 rcases Nat.lt_or_ge OB w.heap.size with h | h
 . exact h
 . rw[Array.getElem?_eq_none h] at h1;cases h1
theorem ROuts.below {w w':World} {OB N:Nat} {outs:List (List (List UInt8))} (h:ROuts w OB N outs) (hb:Below w.heap.size w w'):ROuts w' OB N outs:=by
 have hl:=h.lt
 obtain⟨us,h1,h2,h3,h4,h5⟩:=h
 refine⟨us,by rw[hb.block OB hl];exact h1,h2,h3,fun j o hj=>?_,h5⟩
 obtain⟨u,a1,a2,a3⟩:=h4 j o hj
 exact⟨u,a1,a2.below hb,a3⟩
theorem ROuts.at {w:World} {OB N:Nat} {outs:List (List (List UInt8))} (h:ROuts w OB N outs) {i k:Nat} {o:List (List UInt8)} {b:List UInt8} (hi:outs[i]? = some o) (hk:o[k]? = some b) :
 ∃b1 off1 m1 c1 au cu,w.cell? ⟨OB,i,none⟩=some (.slice (some ⟨b1,off1,none⟩) m1 c1)/\k<m1/\m1<=9223372036854775807/\w.cell? ⟨b1,off1+k,none⟩=some (.slice au b.length cu)/\Reads w (.slice au b.length cu) b.length (b.map U)/\i<N:=by
 obtain⟨us,h1,h2,h3,h4,h5⟩:=h
 obtain⟨u,a1,a2,a3⟩:=h4 i o hi
 obtain⟨ao,cap,rfl,hs1,hs2⟩:=a2.shape
 obtain⟨b1,off1,au,cu,rfl,hc,hr⟩:=a2.at hk
 have hil:i<outs.length:=(gSm hi).1
 have hkl:k<o.length:=(gSm hk).1
 unfold maxLen at hs2
 refine⟨b1,off1,o.length,cap,au,cu,?_,hkl,by omega,hc,hr,by omega⟩
 rw[cell_of_row _ _ _ _ _ _ h1]
 simpa using a1
theorem coming_is (n:SNode) (ai:Option Addr) (ci CB OB N:Nat) (outs:List (List (List UInt8))) (w:World) (hc:w.cell? ⟨CB,0,none⟩=some (.slice (some ⟨OB,0,none⟩) N N)) (ho:ROuts w OB N outs) (hN60:N<=60) (hp:RPorts w (.slice ai n.ins.length ci) n.ins) (h5:n.ins.length<=5)
 (hok:∀p∈n.ins,∃(i k:Nat) (o:List (List UInt8)) (b:List UInt8),p=((i:Int),(k:Int))/\outs[i]? = some o/\o[k]? = some b) :
 Calls Tryz.prog 94 #[nodeV n ai n.ins.length ci,.pointer (some ⟨CB,0,none⟩)] w fun e w'=>∃r,e=.returned r/\RList w' r U (n.ins.map (portAt outs))/\Below w.heap.size w w':=by
 obtain⟨i1,hi',hy0,hy1,hy2⟩:=info_parts infoBsG
 have hle:=rports_le hp
 have HP:Hid (RPorts w (.slice ai n.ins.length ci) n.ins):=hp
 have HO:Hid (ROuts w OB N outs):=ho
 have HOK:Hid _:=hok
 have HC:Hid (w.cell? ⟨CB,0,none⟩=some (.slice (some ⟨OB,0,none⟩) N N)):=hc
 obtain⟨M,hM⟩:∃M,M=n.ins.length:=⟨_,rfl⟩
 have HM:Hid (M=n.ins.length):=hM
 obtain⟨bss,hbss⟩:∃bss,bss=n.ins.map (portAt outs):=⟨_,rfl⟩
 have HBS:Hid (bss=n.ins.map (portAt outs)):=hbss
 have HML:Hid (M=bss.length):=(show _=_ by rw[hM,hbss];simp)
 have hM5:M<=5:=by omega
 have hb4:i1.bytes*M<=281474976710656:=by rw[hy2];omega
 have hb5:M<=maxLen:=by unfold maxLen;omega
 unfold nodeV
 rw[<- hM,<- hbss]
 rw[<- hM] at HP hle
 generalize (⟨n.file.toArray⟩:ByteArray)=fx
 generalize (⟨n.c.word.toArray⟩:ByteArray)=wx0
 generalize n.c.kind=ck
 generalize n.c.n=cn
 generalize n.how=hw
 generalize n.wide=wd
 generalize n.kind=nk
 clear hp ho hc hok hM hbss h5
 go_enter Tryz.func94,Tryz.ntmps94
 go_wp2_with (at_make;refine wpList_make_full _ rfl (.tmp 9) (.tmp 9) 74 rfl (w.heap.size+1) 28 i1 (.slice none 0 0) 1 Tryz.underlying74 hi' hy0 hy1 .i64 .i64 _ _ M rfl rfl rfl rfl hb4 hb5 (by simp) ?_)
 intro w3 hout3 hgrow3
 have hC8:Cells8 w3 w.heap.size (.int .i64 nk) (.string fx) (.int .i64 ck) (.string wx0) (.int .i64 cn) (.int .i64 hw) (.int .i64 wd) (.slice ai M ci):=nbox_cells (below_grown hgrow3 (Nat.le_refl _))
 obtain⟨y0,y1,y2,y3,y4,y5,y6,y7⟩:=hC8
 have HD3:Hid (CRel (w.alloc (.cells #[.int .i64 nk,.string fx,.int .i64 ck,.string wx0,.int .i64 cn,.int .i64 hw,.int .i64 wd,.slice ai M ci] 73)) w3 bss (w.heap.size+1) 0):=by
  refine⟨List.replicate M (.slice none 0 0),?_,by simp[HML.out],fun j p hj=>absurd hj (Nat.not_lt_zero _),fun j _ hj=>?_,below_grown hgrow3 (Nat.le_refl _)⟩
  . have:=(row_of_owns hout3).1
    rw[toList_madeCells_one] at this
    exact this
  . rw[List.getElem?_replicate,if_pos (by rw[HML.out];exact hj)]
 clear hout3 hgrow3
 go_wp2_with fail
 go_loopw [14] (fun i wr=>∃k:Nat,k<=M/\i=.int .i64 k/\Hid (CRel (w.alloc (.cells #[.int .i64 nk,.string fx,.int .i64 ck,.string wx0,.int .i64 cn,.int .i64 hw,.int .i64 wd,.slice ai M ci] 73)) wr bss (w.heap.size+1) k)) (fun i _=>M-(intOf i).toNat)
 case atStart=>exact⟨0,Nat.zero_le _,rfl,HD3.out⟩
 case round=>
  clear HD3 y0 y1 y2 y3 y4 y5 y6 y7
  obtain⟨j,hjM,rfl,hrel⟩:=hrel
  have HBr:Hid (Below w.heap.size w wr):=by obtain⟨vs,_,_,_,_,h5⟩:=hrel.out;exact box_of.trans (h5.mono (by simp))
  by_cases hlt:j<M
  .
   obtain⟨p,hpk⟩:∃p,n.ins[j]? = some p:=⟨_,gEl (by have:=HM.out;omega)⟩
   obtain⟨i,k,o,b,rfl,hoi,hbk⟩:=HOK.out p (mGt hpk)
   obtain⟨pb,po,rfl,p0,p1⟩:=(HP.out.below HBr.out).at hpk
   obtain⟨b1,off1,m1,c1,au,cu,hc1,hkm,hm1,hc2,hrb,hiN⟩:=(HO.out.below HBr.out).at hoi hbk
   have hcc:=(HBr.out.cell (bLt w _ HC.out)).trans HC.out
   have hpb:bss[j]? = some b:=by
    rw[HBS.out,List.getElem?_map,hpk]
    simp[portAt,hoi,hbk]
   obtain⟨hcG,hfG,hG⟩:=hrel.out.cell (by have:=HML.out;omega)
   have hbx:Below wr.heap.size wr (wr.alloc (.cells #[.int .i64 (i:Int),.int .i64 (k:Int)] 79)).drew:=box_of.drew
   have hD4:=hrel.out.below hbx hG
   have HD5:Hid (CRel (w.alloc (.cells #[.int .i64 nk,.string fx,.int .i64 ck,.string wx0,.int .i64 cn,.int .i64 hw,.int .i64 wd,.slice (some ⟨pb,po,none⟩) M ci] 73)) (((wr.setCell ⟨w.heap.size+1,j,none⟩ (.slice au b.length cu)).alloc (.cells #[.int .i64 (i:Int),.int .i64 (k:Int)] 79)).drew) bss (w.heap.size+1) (j+1)):=(hrel.out.step hpb hrb (by simp)).below box_of.drew (by simpa using hG)
   have q0:=(hbx.cell (bLt wr _ hcc)).trans hcc
   have q1:=(hbx.cell (bLt wr _ hc1)).trans hc1
   have q2:=(hbx.cell (bLt wr _ hc2)).trans hc2
   obtain⟨q3,q4,_⟩:=hD4.cell (by have:=HML.out;omega)
   generalize b.length=bl at *
   clear hpk hoi hbk hrb hpb hD4 hbx hrel hcG hfG
   go_wp2_with fail
   go_region_with fail
   all_goals
    go_wp2_with fail
    go_roundw
    case rel=>exact⟨j+1,by omega,by go_num,HD5.out⟩
    case measure=>simp[intOf];omega
  .
   have hjM':j=M:=by omega
   have HF:Hid (RList wr (.slice (some ⟨w.heap.size+1,0,none⟩) M M) U bss):=(show RList _ _ _ _ by
    have h:=hrel.out.done (by rw[<- HML.out];exact hjM') (by rw[<- HML.out];omega)
    rw[<- HML.out] at h
    exact h)
   clear hrel
   go_wp2_with fail
   go_ret
   exact⟨_,rfl,HF.out,HBr.out⟩
theorem wordb_is (n:List UInt8) (W:World) (hn:n.length<=9223372036854775807) (iw:Bool) (h:isWord n=iw) :
 Calls Tryz.prog 103 #[.string ⟨n.toArray⟩] W fun e w'=>e=.returned (.bool iw)/\Below W.heap.size W w':=by
 refine (word_is n W hn).mono ?_
 rintro e w' ⟨rfl,rfl⟩
 exact⟨by rw[h],Below.refl _ _⟩
theorem fcheck_is (ao:Option Addr) (cap:Nat) (fs:List SFile) (w:World) (hf:RFiles w (.slice ao fs.length cap) fs) (hfit:∀f∈fs,FitsF f) :
 Calls Tryz.prog 39 #[.slice ao fs.length cap] w fun e w'=>e=.returned (.int .i64 (fchk fs))/\Below w.heap.size w w':=by
 have hle:=rfiles_le hf
 have HF:Hid (RFiles w (.slice ao fs.length cap) fs):=hf
 have HFit:Hid _:=hfit
 obtain⟨N,hN⟩:∃N,N=fs.length:=⟨_,rfl⟩
 have HN:Hid (N=fs.length):=hN
 have hN1:N<=9223372036854775807:=by omega
 rw[<- hN] at HF ⊢
 by_cases hmany:12<N
 .
  have HR:Hid (fchk fs=2):=(show _=_ by unfold fchk;rw[if_pos (by omega)])
  have hq:(12:Int)<N:=by omega
  clear hf hfit hle hN
  go_enter Tryz.func39,Tryz.ntmps39
  go_wp2_with fail
  go_ret
  exact⟨by rw[HR.out];rfl,Below.refl _ _⟩
 .
  have HR:Hid (fchk fs=fchkFrom none fs):=fchk_few (by omega)
  have hN12:N<=12:=by omega
  clear hf hfit hle hN hmany hN1
  go_enter Tryz.func39,Tryz.ntmps39
  go_wp2_with fail
  go_loopw [10] (fun i wr=>∃k:Nat,k<=N/\i=.int .i64 k/\Hid (Below w.heap.size w wr)/\Hid (fchkFrom none (fs.take k)=0)) (fun i _=>N-(intOf i).toNat)
  case atStart=>exact⟨0,Nat.zero_le _,rfl,Below.refl _ _,(show _=_ from rfl)⟩
  case round=>
   obtain⟨k,hk,rfl,hbel,hno⟩:=hrel
   by_cases hlt:k<N
   .
    obtain⟨f,hfk⟩:∃f,fs[k]? = some f:=⟨_,gEl (by have:=HN.out;omega)⟩
    have HFK:Hid (fs[k]? = some f):=hfk
    have HRk:Hid (RFiles wr (.slice ao N cap) fs):=RFiles.below HF.out hbel.out
    obtain⟨b,off,ab,cb,rfl,hc0,hc1,hr⟩:=HRk.out.at hfk
    obtain⟨iw,hiw⟩:∃d,d=isWord f.name:=⟨_,rfl⟩
    have HIW:Hid (iw=isWord f.name):=hiw
    have HW:Hid _:=fun (W:World)=>wordb_is f.name W (HFit.out f (mGt hfk)) iw hiw.symm
    have hbl:=reads_le' hr
    obtain⟨L,hL⟩:∃L,L=f.b.length:=⟨_,rfl⟩
    have HL:Hid (L=f.b.length):=hL
    rw[<- hL] at hc1 hbl
    obtain⟨fx,hfx⟩:∃fx:ByteArray,fx=⟨f.name.toArray⟩:=⟨_,rfl⟩
    have HFX:Hid (fx=⟨f.name.toArray⟩):=hfx
    rw[<- hfx] at hc0 HW
    clear hfk hr hiw hL hfx
    go_wp2_with fail
    have hQ:=HW.out (wr.alloc (.cells #[.string fx,.slice ab L cb] 83))
    refine Calls.mono hQ ?_
    rintro e w2 ⟨rfl,hb2⟩
    obtain⟨hx0,hx1⟩:=box2_cells hb2
    have HB2:Hid (Below w.heap.size w w2):=(hbel.out.alloc hbel.out.size _).trans (hb2.mono (by simp;exact Nat.le_succ_of_le hbel.out.size))
    have HR2:Hid (RFiles w2 (.slice (some ⟨b,off,none⟩) N cap) fs):=RFiles.below (RFiles.below HRk.out boxr_of) hb2
    clear hQ hb2 HW hc0 hc1
    cases iw with
    | false=>
     have HB:Hid (fbad (lastName none (fs.take k)) f=1):=(show _=_ by unfold fbad;rw[if_pos HIW.out.symm])
     have HE:Hid (fchk fs=1):=(show _=_ by rw[HR.out,from_bad HFK.out hno.out (by rw[HB.out];decide),HB.out])
     clear hno HB
     go_wp2_with fail
     go_ret
     exact⟨by rw[HE.out];rfl,HB2.out⟩
    | true=>
     by_cases hl4:4000<L
     . have HB:Hid (fbad (lastName none (fs.take k)) f=2):=(show _=_ by unfold fbad;rw[if_neg (by simp[<- HIW.out]),if_pos (by have:=HL.out;omega)])
       have HE:Hid (fchk fs=2):=(show _=_ by rw[HR.out,from_bad HFK.out hno.out (by rw[HB.out];decide),HB.out])
       have hq:(4000:Int)<L:=by omega
       clear hno HB
       go_wp2_with fail
       go_ret
       exact⟨by rw[HE.out];rfl,HB2.out⟩
     .
      have hq:¬(4000:Int)<L:=by omega
      have HB:Hid (fbad (lastName none (fs.take k)) f=match lastName none (fs.take k) with | none=>0 | some q=>if q<f.name then 0 else 6):=(show _=_ by unfold fbad;rw[if_neg (by simp[<- HIW.out]),if_neg (by have:=HL.out;omega)];rfl)
      by_cases hk0:k=0
      . subst hk0
        have HG:Hid (fchkFrom none (fs.take 1)=0):=from_good HFK.out hno.out (by rw[HB.out];rfl)
        clear hno HB
        go_wp2_with fail
        go_region
        all_goals go_wp2_with fail
        all_goals go_roundw
        case rel=>exact⟨1,by omega,rfl,HB2.out.drew,HG⟩
        case measure=>simp[intOf];omega
      .
       obtain⟨m,rfl⟩:∃m,k=m+1:=⟨k-1,by omega⟩
       obtain⟨g,hg⟩:∃g,fs[m]? = some g:=⟨_,gEl (by have:=HN.out;omega)⟩
       have hln:lastName none (fs.take (m+1))=some g.name:=last_take hg
       obtain⟨b',off',ab',cb',e0,hg0,hg1,_⟩:=HR2.out.at hg
       injection e0 with e0
       injection e0 with e1 e2
       subst e1 e2
       have hk1:(0:Int)<((m+1:Nat):Int):=by omega
       have hidx:((m+1:Nat):Int)-1=(m:Int):=by omega
       have hmN:m<N:=by omega
       have hls:=less_eq2 f.name g.name
       have hes:=str_eq2 f.name g.name
       rw[hln] at HB
       simp only at HB
       by_cases hlt2:g.name<f.name
       .
        have HG:Hid (fchkFrom none (fs.take (m+1+1))=0):=from_good HFK.out hno.out (by rw[hln,HB.out,if_pos hlt2])
        have hle1:Op.bytesLess fx.toList (⟨g.name.toArray⟩:ByteArray).toList=false:=by
         rw[HFX.out,ByteArray.toList_eq,ByteArray.toList_eq]
         show Op.bytesLess f.name g.name=false
         rw[hls]
         exact decide_eq_false (fun h=>List.lt_irrefl _ (List.lt_trans hlt2 h))
        have hle2:(fx.toList == (⟨g.name.toArray⟩:ByteArray).toList)=false:=by rw[HFX.out,hes];exact decide_eq_false (fun h=>List.lt_irrefl _ (h ▸ hlt2))
        generalize (⟨g.name.toArray⟩:ByteArray)=gx at *
        clear hno HB hls hes hln hlt2 hg hg1
        go_wp2_with fail
        go_quiet (fail)
        all_goals go_wp2_with fail
        all_goals go_roundw
        case rel=>exact⟨m+1+1,by omega,by go_num,belowq HB2.out _,HG⟩
        case measure=>simp[intOf];omega
       .
        have HE:Hid (fchk fs=6):=(show _=_ by rw[HR.out,from_bad HFK.out hno.out (by rw[hln,HB.out,if_neg hlt2];decide),hln,HB.out,if_neg hlt2])
        obtain⟨d1,hd1⟩:∃d,d=Op.bytesLess fx.toList (⟨g.name.toArray⟩:ByteArray).toList:=⟨_,rfl⟩
        obtain⟨d2,hd2⟩:∃d,d=(fx.toList == (⟨g.name.toArray⟩:ByteArray).toList):=⟨_,rfl⟩
        have hor:d1=true\/d2=true:=by
         rw[hd1,hd2,HFX.out,hes]
         by_cases hfg:f.name=g.name
         . exact .inr (decide_eq_true hfg)
         . left
           rw[ByteArray.toList_eq,ByteArray.toList_eq]
           show Op.bytesLess f.name g.name=true
           rw[hls]
           have h3:f.name<=g.name:=List.not_lt.1 hlt2
           by_cases h:f.name<g.name
           . exact decide_eq_true h
           . exact absurd (List.le_antisymm h3 (List.not_lt.1 h)) hfg
        generalize (⟨g.name.toArray⟩:ByteArray)=gx at *
        clear hno HB hls hes hln hlt2 hg hg1
        rcases hor with rfl | rfl
        . have hd1':=hd1.symm
          clear hd1 hd2
          go_wp2_with fail
          go_quiet (fail)
          all_goals go_wp2_with fail
          all_goals go_ret
          all_goals exact⟨by rw[HE.out];rfl,belowq HB2.out _⟩
        . have hd2':=hd2.symm
          clear hd1 hd2
          go_wp2_with fail
          go_quiet (fail)
          all_goals go_wp2_with fail
          all_goals go_ret
          all_goals exact⟨by rw[HE.out];rfl,belowq HB2.out _⟩
   .
    have HE:Hid (fchk fs=0):=(show _=_ by
     rw[HR.out]
     have e:=hno.out
     rw[List.take_of_length_le (by have:=HN.out;omega)] at e
     exact e)
    clear hno
    go_wp2_with fail
    go_ret
    exact⟨by rw[HE.out];rfl,hbel.out⟩
theorem cmp_rng:∀(a b:List UInt8),(Lib.compareBytes a b = -1/\a<b)\/(Lib.compareBytes a b=0/\a=b)\/(Lib.compareBytes a b=1/\b<a)
 | [],[]=>by simp[Lib.compareBytes]
 | [],_::_=>by simp[Lib.compareBytes]
 | _::_,[]=>by simp[Lib.compareBytes]
 | x::a,y::b=>by
  rw[Lib.compareBytes]
  by_cases h1:x<y
  . rw[if_pos h1];left;exact⟨rfl,List.cons_lt_cons_iff.2 (.inl h1)⟩
  .
   rw[if_neg h1]
   by_cases h2:y<x
   . rw[if_pos h2];right;right;exact⟨rfl,List.cons_lt_cons_iff.2 (.inl h2)⟩
   .
    rw[if_neg h2]
    have e:x=y:=UInt8.le_antisymm (UInt8.not_lt.1 h2) (UInt8.not_lt.1 h1)
    subst e
    rcases cmp_rng a b with ⟨h,h'⟩ | ⟨h,h'⟩ | ⟨h,h'⟩
    . exact .inl ⟨h,List.cons_lt_cons_iff.2 (.inr ⟨rfl,h'⟩)⟩
    . exact .inr (.inl ⟨h,by rw[h']⟩)
    . exact .inr (.inr ⟨h,List.cons_lt_cons_iff.2 (.inr ⟨rfl,h'⟩)⟩)
theorem cmp_neg (a b:List UInt8):Lib.compareBytes a b<0 ↔ a<b:=by
 rcases cmp_rng a b with ⟨h,h'⟩ | ⟨h,h'⟩ | ⟨h,h'⟩
 . rw[h];simp[h']
 . rw[h,h'];simp
 . rw[h]
   have:¬a<b:=fun x=>List.lt_irrefl _ (List.lt_trans x h')
   simp[this]
theorem cmp_zero (a b:List UInt8):Lib.compareBytes a b=0 ↔ a=b:=by
 rcases cmp_rng a b with ⟨h,h'⟩ | ⟨h,h'⟩ | ⟨h,h'⟩
 . rw[h]
   have:¬a=b:=fun x=>List.lt_irrefl _ (x ▸ h')
   simp[this]
 . rw[h,h'];simp
 . rw[h]
   have:¬a=b:=fun x=>List.lt_irrefl _ (x ▸ h')
   simp[this]
theorem find1_is (f:List UInt8) (vb:Value) (ab:Option Addr) (nb cb:Nat) (n:List UInt8) (w:World) :
 Calls Tryz.prog 200 #[.agg #[.string ⟨f.toArray⟩,.slice ab nb cb],.string ⟨n.toArray⟩] w fun e w'=>e=.returned (.int .i64 (Lib.compareBytes f n))/\Below w.heap.size w w':=by
 have hC:∀W:World,Calls Tryz.prog 201 #[.string ⟨f.toArray⟩,.string ⟨n.toArray⟩] W fun e w'=>e=.returned (.int .i64 (Lib.compareBytes f n))/\w'=W:=fun W=>Tryz.strings_Compare ⟨f.toArray⟩ ⟨n.toArray⟩ W
 have HC:Hid _:=hC
 generalize Lib.compareBytes f n=r at *
 generalize (⟨f.toArray⟩:ByteArray)=fx at *
 generalize (⟨n.toArray⟩:ByteArray)=nx at *
 clear hC
 go_enter Tryz.func200,Tryz.ntmps200
 go_wp2_with fail
 refine Calls.mono (HC.out _) ?_
 rintro e w2 ⟨rfl,rfl⟩
 go_wp2_with fail
 go_ret
 exact⟨rfl,boxr_of⟩
end Go.Proofs.YtllgglolcgdehaaGreatDoor
