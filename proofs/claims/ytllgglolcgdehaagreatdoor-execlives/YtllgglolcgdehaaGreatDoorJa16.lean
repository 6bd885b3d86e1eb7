/- What the developers' lists (of graphs) does, and more. -/
import Derived.Lib.Bytealg
import Derived.Laws.Shifts
import Derived.Test.YtllgglolcgdehaaGreatDoorJa14
import Derived.Test.YtllgglolcgdehaaGreatDoorJa15
namespace Go.Proofs.YtllgglolcgdehaaGreatDoor
open Go.RowKit Go.Gs
set_option linter.unusedVariables false
theorem infoSsG:(Tryz.prog.info? 53).map (fun i=>(i.zero,i.size,i.bytes))=some (some (.slice none 0 0),1,24):=by kernel_rfl
def GRel (w wr:World) (bss:List (List UInt8)) (G i:Nat):Prop:=
 ∃ vs:List Value,wr.heap[G]? = some (.cells vs.toArray 53 (0,0))/\vs.length=bss.length/\(∀ (j:Nat) (p:List UInt8),j < i->bss[j]? = some p -> ∃ u,vs[j]? = some u/\Reads wr u (lines p).length ((lines p).map S))/\(∀ j,i<=j->j < bss.length->vs[j]? = some (.slice none 0 0))/\Below w.heap.size w wr
theorem slice_not_SG {l:List (List UInt8)} {a:Option Addr} {n c:Nat}:Value.slice a n c ∉ l.map S:=by
 intro h
 obtain ⟨x,_,e⟩:=List.mem_map.1 h
 cases e
theorem GRel.cell {w wr:World} {bss:List (List UInt8)} {G i:Nat} (h:GRel w wr bss G i) (hi:i < bss.length):wr.cell? ⟨G,i,none⟩=some (.slice none 0 0)/\wr.frozen? ⟨G,i,none⟩=false/\G < wr.heap.size:=by
 obtain ⟨vs,h1,h2,h3,h4,h5⟩:=h
 refine ⟨?_,frozen_of_row _ _ _ _ _ h1,?_⟩
 . rw [cell_of_row _ _ _ _ _ _ h1]
   simpa using h4 i (Nat.le_refl _) hi
 . rcases Nat.lt_or_ge G wr.heap.size with h | h
   . exact h
   . rw [Array.getElem?_eq_none h] at h1;cases h1
theorem GRel.below {w wr w1:World} {bss:List (List UInt8)} {G i:Nat} (h:GRel w wr bss G i) (hb:Below wr.heap.size wr w1) (hG:G < wr.heap.size):GRel w w1 bss G i:=by
 obtain ⟨vs,h1,h2,h3,h4,h5⟩:=h
 refine ⟨vs,by rw [hb.block G hG];exact h1,h2,fun j p hj hp=>?_,h4,h5.trans (hb.mono h5.size)⟩
 obtain ⟨u,h6,h7⟩:=h3 j p hj hp
 exact ⟨u,h6,h7.below hb⟩
theorem GRel.step {w wr:World} {bss:List (List UInt8)} {G i:Nat} {u:Value} {p:List UInt8} (h:GRel w wr bss G i) (hp:bss[i]? = some p) (hu:Reads wr u (lines p).length ((lines p).map S)) (hG:w.heap.size<=G):GRel w (wr.setCell ⟨G,i,none⟩ u) bss G (i+1):=by
 have hi:i < bss.length:=(List.getElem?_eq_some_iff.1 hp).1
 obtain ⟨hc,_,_⟩:=h.cell hi
 obtain ⟨vs,h1,h2,h3,h4,h5⟩:=h
 refine ⟨vs.set i u,by rw [heap_setCell_same _ _ _ _ _ _ h1];simp,by simp [h2],fun j q hj hq=>?_,fun j hj hjl=>?_,h5.setCell hG _⟩
 . by_cases hji:i=j
   . subst hji
     rw [hp] at hq
     injection hq with hq
     subst hq
     exact ⟨u,List.getElem?_set_self (by omega),hu.setCell hc u slice_not_SG⟩
   . obtain ⟨u',h6,h7⟩:=h3 j q (by omega) hq
     exact ⟨u',by rw [List.getElem?_set_ne hji];exact h6,h7.setCell hc u slice_not_SG⟩
 . rw [List.getElem?_set_ne (by omega)]
   exact h4 j (by omega) hjl
theorem GRel.done {w wr:World} {bss:List (List UInt8)} {G i:Nat} (h:GRel w wr bss G i) (hi:i=bss.length) (hn:bss.length<=1000):RList wr (.slice (some ⟨G,0,none⟩) bss.length bss.length) S (bss.map lines):=by
 subst hi
 obtain ⟨vs,h1,h2,h3,h4,h5⟩:=h
 refine ⟨vs,⟨by simp [h2],_,_,by rw [List.length_map],by simp,by unfold maxLen;omega,fun _=>⟨G,0,rfl,fun j u hu=>?_⟩⟩,fun j p hj=>?_⟩
 . rw [Nat.zero_add,cell_of_row _ _ _ _ _ _ h1]
   simpa using hu
 . rw [List.getElem?_map] at hj
   cases hb:bss[j]? with
   | none=>rw [hb] at hj;cases hj
   | some q=>
    rw [hb] at hj
    simp only [Option.map_some,Option.some.injEq] at hj
    subst hj
    exact h3 j q (List.getElem?_eq_some_iff.1 hb).1 hb
set_option maxRecDepth 100000 in
set_option maxHeartbeats 4000000 in
theorem lists_is (v:Value) (bss:List (List UInt8)) (w:World) (hp:RList w v U bss) (hn:bss.length<=5) (hT:bss.flatten.length<=300000) :
 Calls Tryz.prog 151 #[v] w fun e w'=>∃ r,e=.returned r/\RList w' r S (bss.map lines)/\Below w.heap.size w w':=by
 obtain ⟨ao,cap,rfl,hc1,hc2⟩:=hp.shape
 have hcm:cap<=9223372036854775807:=by simpa [maxLen] using hc2
 have HP:Hid (RList w (.slice ao bss.length cap) U bss):=hp
 have HTb:Hid (bss.flatten.length<=300000):=hT
 obtain ⟨i1,hi',hy0,hy1,hy2⟩:=info_parts infoSsG
 obtain ⟨N,hN⟩:∃ N,N=bss.length:=⟨_,rfl⟩
 have HN:Hid (N=bss.length):=hN
 have hN5:N<=5:=by omega
 have hb4:i1.bytes*N<=281474976710656:=by rw [hy2];omega
 have hb5:N<=maxLen:=by unfold maxLen;omega
 rw [<- hN]
 rw [<- hN] at hc1
 clear hp hn hT hN hc2
 go_enter Tryz.func151,Tryz.ntmps151
 go_wp2_with (at_make;refine wpList_make_full _ rfl (.tmp 7) (.tmp 7) 190 rfl w.heap.size 53 i1 (.slice none 0 0) 1 Tryz.underlying190 hi' hy0 hy1 .i64 .i64 _ _ N rfl rfl rfl rfl hb4 hb5 (Nat.le_refl _) ?_)
 intro w3 hout3 hgrow3
 have HD3:Hid (GRel w w3 bss w.heap.size 0):=by
  refine ⟨List.replicate N (.slice none 0 0),?_,by simp [HN.out],fun j p hj=>absurd hj (Nat.not_lt_zero _),fun j _ hj=>?_,below_grown hgrow3 (Nat.le_refl _)⟩
  . have:=(row_of_owns hout3).1
    rw [toList_madeCells_one] at this
    exact this
  . rw [List.getElem?_replicate,if_pos (by rw [HN.out];exact hj)]
 clear hout3 hgrow3
 go_wp2_with fail
 go_loopw [11] (fun i wr=>∃ k:Nat,k<=N/\i=.int .i64 k/\Hid (GRel w wr bss w.heap.size k)) (fun i _=>N-(intOf i).toNat)
 case atStart=>exact ⟨0,Nat.zero_le _,rfl,HD3.out⟩
 case round=>
  obtain ⟨i,hiN,rfl,hrel⟩:=hrel
  have HBr:Hid (Below w.heap.size w wr):=by obtain ⟨vs,_,_,_,_,h5⟩:=hrel.out;exact h5
  by_cases hlt:i < N
  . obtain ⟨p,hpk⟩:∃ p,bss[i]? = some p:=⟨_,List.getElem?_eq_getElem (by have:=HN.out;omega)⟩
    have HPr:Hid (RList wr (.slice ao N cap) U bss):=by rw [HN.out];exact HP.out.below HBr.out
    obtain ⟨b,off,au,cu,rfl,hcell,hru⟩:=HPr.out.at hpk
    have hpl:p.length<=300000:=Nat.le_trans (flat_mem_le (List.mem_of_getElem? hpk)) HTb.out
    have hof:=all_reads _ p wr hru (by omega)
    have HPK:Hid _:=hpk
    obtain ⟨hcG,hfG,hG⟩:=hrel.out.cell (by have:=HN.out;omega)
    clear hpk hru
    generalize p.length=pl at *
    go_wp2_with fail
    refine hof.mono ?_
    rintro e w4 ⟨l,rfl,hown4,hb4'⟩
    have HR4:Hid (Reads w4 l (lines p).length ((lines p).map S)):=Reads.of_owns hown4
    have hD4:=hrel.out.below hb4' hG
    obtain ⟨hcG4,hfG4,hG4⟩:=hD4.cell (by have:=HN.out;omega)
    have HD5:Hid (GRel w (w4.setCell ⟨w.heap.size,i,none⟩ l) bss w.heap.size (i+1)):=hD4.step HPK.out HR4.out (Nat.le_refl _)
    obtain ⟨_,al,cl,rfl,_⟩:=id HR4.out
    clear hown4 hb4' hrel hD4 hof hcG hfG hcell
    go_wp2_with fail
    go_roundw
    case rel=>exact ⟨i+1,by omega,by go_num,HD5.out⟩
    case measure=>simp [intOf];omega
  . have hiN':i=N:=by omega
    have HF:Hid (RList wr (.slice (some ⟨w.heap.size,0,none⟩) N N) S (bss.map lines)):=(show RList _ _ _ _ by
     have h:=hrel.out.done (by rw [<- HN.out];exact hiN') (by rw [<- HN.out];omega)
     rw [<- HN.out] at h
     exact h)
    clear hrel
    go_wp2_with fail
    go_ret
    exact ⟨_,rfl,HF.out,HBr.out⟩
theorem wordb_is (n:List UInt8) (W:World) (hn:n.length<=9223372036854775807) (iw:Bool) (h:isWord n=iw) :
 Calls Tryz.prog 103 #[.string ⟨n.toArray⟩] W fun e w'=>e=.returned (.bool iw)/\Below W.heap.size W w':=by
 refine (word_is n W hn).mono ?_
 rintro e w' ⟨rfl,rfl⟩
 exact ⟨by rw [h],Below.refl _ _⟩
set_option maxRecDepth 100000 in
set_option maxHeartbeats 4000000 in
theorem fcheck_is (ao:Option Addr) (cap:Nat) (fs:List SFile) (w:World) (hf:RFiles w (.slice ao fs.length cap) fs) (hfit:∀ f ∈ fs,FitsF f) :
 Calls Tryz.prog 39 #[.slice ao fs.length cap] w fun e w'=>e=.returned (.int .i64 (fchk fs))/\Below w.heap.size w w':=by
 have hle:=rfiles_le hf
 have HF:Hid (RFiles w (.slice ao fs.length cap) fs):=hf
 have HFit:Hid _:=hfit
 obtain ⟨N,hN⟩:∃ N,N=fs.length:=⟨_,rfl⟩
 have HN:Hid (N=fs.length):=hN
 have hN1:N<=9223372036854775807:=by omega
 rw [<- hN] at HF ⊢
 by_cases hmany:12 < N
 . have HR:Hid (fchk fs=2):=(show _=_ by unfold fchk;rw [if_pos (by omega)])
   have hq:(12:Int) < N:=by omega
   clear hf hfit hle hN
   go_enter Tryz.func39,Tryz.ntmps39
   go_wp2_with fail
   go_ret
   exact ⟨by rw [HR.out];rfl,Below.refl _ _⟩
 . have HR:Hid (fchk fs=fchkFrom none fs):=fchk_few (by omega)
   have hN12:N<=12:=by omega
   clear hf hfit hle hN hmany hN1
   go_enter Tryz.func39,Tryz.ntmps39
   go_wp2_with fail
   go_loopw [10] (fun i wr=>∃ k:Nat,k<=N/\i=.int .i64 k/\Hid (Below w.heap.size w wr)/\Hid (fchkFrom none (fs.take k)=0)) (fun i _=>N-(intOf i).toNat)
   case atStart=>exact ⟨0,Nat.zero_le _,rfl,Below.refl _ _,(show _=_ from rfl)⟩
   case round=>
    obtain ⟨k,hk,rfl,hbel,hno⟩:=hrel
    by_cases hlt:k < N
    . obtain ⟨f,hfk⟩:∃ f,fs[k]? = some f:=⟨_,List.getElem?_eq_getElem (by have:=HN.out;omega)⟩
      have HFK:Hid (fs[k]? = some f):=hfk
      have HRk:Hid (RFiles wr (.slice ao N cap) fs):=RFiles.below HF.out hbel.out
      obtain ⟨b,off,ab,cb,rfl,hc0,hc1,hr⟩:=HRk.out.at hfk
      obtain ⟨iw,hiw⟩:∃ d,d=isWord f.name:=⟨_,rfl⟩
      have HIW:Hid (iw=isWord f.name):=hiw
      have HW:Hid _:=fun (W:World)=>wordb_is f.name W (HFit.out f (List.mem_of_getElem? hfk)) iw hiw.symm
      have hbl:=reads_le' hr
      obtain ⟨L,hL⟩:∃ L,L=f.b.length:=⟨_,rfl⟩
      have HL:Hid (L=f.b.length):=hL
      rw [<- hL] at hc1 hbl
      obtain ⟨fx,hfx⟩:∃ fx:ByteArray,fx=⟨f.name.toArray⟩:=⟨_,rfl⟩
      have HFX:Hid (fx=⟨f.name.toArray⟩):=hfx
      rw [<- hfx] at hc0 HW
      clear hfk hr hiw hL hfx
      go_wp2_with fail
      have hQ:=HW.out (wr.alloc (.cells #[.string fx,.slice ab L cb] 83))
      refine Calls.mono hQ ?_
      rintro e w2 ⟨rfl,hb2⟩
      obtain ⟨hx0,hx1⟩:=box2_cells hb2
      have HB2:Hid (Below w.heap.size w w2):=(hbel.out.alloc hbel.out.size _).trans (hb2.mono (by simp;exact Nat.le_succ_of_le hbel.out.size))
      have HR2:Hid (RFiles w2 (.slice (some ⟨b,off,none⟩) N cap) fs):=RFiles.below (RFiles.below HRk.out boxr_of) hb2
      clear hQ hb2 HW hc0 hc1
      cases iw with
      | false=>
       have HB:Hid (fbad (lastName none (fs.take k)) f=1):=(show _=_ by unfold fbad;rw [if_pos HIW.out.symm])
       have HE:Hid (fchk fs=1):=(show _=_ by rw [HR.out,from_bad HFK.out hno.out (by rw [HB.out];decide),HB.out])
       clear hno HB
       go_wp2_with fail
       go_ret
       exact ⟨by rw [HE.out];rfl,HB2.out⟩
      | true=>
       by_cases hl4:4000 < L
       . have HB:Hid (fbad (lastName none (fs.take k)) f=2):=(show _=_ by unfold fbad;rw [if_neg (by simp [<- HIW.out]),if_pos (by have:=HL.out;omega)])
         have HE:Hid (fchk fs=2):=(show _=_ by rw [HR.out,from_bad HFK.out hno.out (by rw [HB.out];decide),HB.out])
         have hq:(4000:Int) < L:=by omega
         clear hno HB
         go_wp2_with fail
         go_ret
         exact ⟨by rw [HE.out];rfl,HB2.out⟩
       . have hq:¬ (4000:Int) < L:=by omega
         have HB:Hid (fbad (lastName none (fs.take k)) f=match lastName none (fs.take k) with | none=>0 | some q=>if q < f.name then 0 else 6):=(show _=_ by unfold fbad;rw [if_neg (by simp [<- HIW.out]),if_neg (by have:=HL.out;omega)];rfl)
         by_cases hk0:k=0
         . subst hk0
           have HG:Hid (fchkFrom none (fs.take 1)=0):=from_good HFK.out hno.out (by rw [HB.out];rfl)
           clear hno HB
           go_wp2_with fail
           go_region
           all_goals go_wp2_with fail
           all_goals go_roundw
           case rel=>exact ⟨1,by omega,rfl,HB2.out.drew,HG⟩
           case measure=>simp [intOf];omega
         . obtain ⟨m,rfl⟩:∃ m,k=m+1:=⟨k-1,by omega⟩
           obtain ⟨g,hg⟩:∃ g,fs[m]? = some g:=⟨_,List.getElem?_eq_getElem (by have:=HN.out;omega)⟩
           have hln:lastName none (fs.take (m+1))=some g.name:=last_take hg
           obtain ⟨b',off',ab',cb',e0,hg0,hg1,_⟩:=HR2.out.at hg
           injection e0 with e0
           injection e0 with e1 e2
           subst e1 e2
           have hk1:(0:Int) < ((m+1:Nat):Int):=by omega
           have hidx:((m+1:Nat):Int)-1=(m:Int):=by omega
           have hmN:m < N:=by omega
           have hls:=less_eq2 f.name g.name
           have hes:=str_eq2 f.name g.name
           rw [hln] at HB
           simp only at HB
           by_cases hlt2:g.name < f.name
           . have HG:Hid (fchkFrom none (fs.take (m+1+1))=0):=from_good HFK.out hno.out (by rw [hln,HB.out,if_pos hlt2])
             have hle1:Op.bytesLess fx.toList (⟨g.name.toArray⟩:ByteArray).toList=false:=by
              rw [HFX.out,ByteArray.toList_eq,ByteArray.toList_eq]
              show Op.bytesLess f.name g.name=false
              rw [hls]
              exact decide_eq_false (fun h=>List.lt_irrefl _ (List.lt_trans hlt2 h))
             have hle2:(fx.toList == (⟨g.name.toArray⟩:ByteArray).toList)=false:=by rw [HFX.out,hes];exact decide_eq_false (fun h=>List.lt_irrefl _ (h ▸ hlt2))
             generalize (⟨g.name.toArray⟩:ByteArray)=gx at *
             clear hno HB hls hes hln hlt2 hg hg1
             go_wp2_with fail
             go_quiet (fail)
             all_goals go_wp2_with fail
             all_goals go_roundw
             case rel=>exact ⟨m+1+1,by omega,by go_num,belowq HB2.out _,HG⟩
             case measure=>simp [intOf];omega
           . have HE:Hid (fchk fs=6):=(show _=_ by rw [HR.out,from_bad HFK.out hno.out (by rw [hln,HB.out,if_neg hlt2];decide),hln,HB.out,if_neg hlt2])
             obtain ⟨d1,hd1⟩:∃ d,d=Op.bytesLess fx.toList (⟨g.name.toArray⟩:ByteArray).toList:=⟨_,rfl⟩
             obtain ⟨d2,hd2⟩:∃ d,d=(fx.toList == (⟨g.name.toArray⟩:ByteArray).toList):=⟨_,rfl⟩
             have hor:d1=true\/d2=true:=by
              rw [hd1,hd2,HFX.out,hes]
              by_cases hfg:f.name=g.name
              . exact .inr (decide_eq_true hfg)
              . left
                rw [ByteArray.toList_eq,ByteArray.toList_eq]
                show Op.bytesLess f.name g.name=true
                rw [hls]
                have h3:f.name<=g.name:=List.not_lt.1 hlt2
                by_cases h:f.name < g.name
                . exact decide_eq_true h
                . exact absurd (List.le_antisymm h3 (List.not_lt.1 h)) hfg
             generalize (⟨g.name.toArray⟩:ByteArray)=gx at *
             clear hno HB hls hes hln hlt2 hg hg1
             rcases hor with rfl | rfl
             . have hd1':=hd1.symm
               clear hd1 hd2
               go_wp2_with fail
               go_quiet (fail)
               all_goals go_wp2_with fail
               all_goals go_ret
               all_goals exact ⟨by rw [HE.out];rfl,belowq HB2.out _⟩
             . have hd2':=hd2.symm
               clear hd1 hd2
               go_wp2_with fail
               go_quiet (fail)
               all_goals go_wp2_with fail
               all_goals go_ret
               all_goals exact ⟨by rw [HE.out];rfl,belowq HB2.out _⟩
    . have HE:Hid (fchk fs=0):=(show _=_ by
       rw [HR.out]
       have e:=hno.out
       rw [List.take_of_length_le (by have:=HN.out;omega)] at e
       exact e)
      clear hno
      go_wp2_with fail
      go_ret
      exact ⟨by rw [HE.out];rfl,hbel.out⟩
theorem cmp_rng:∀ (a b:List UInt8),(Lib.compareBytes a b = -1/\a < b)\/(Lib.compareBytes a b=0/\a=b)\/(Lib.compareBytes a b=1/\b < a)
 | [],[]=>by simp [Lib.compareBytes]
 | [],_::_=>by simp [Lib.compareBytes]
 | _::_,[]=>by simp [Lib.compareBytes]
 | x::a,y::b=>by
  rw [Lib.compareBytes]
  by_cases h1:x < y
  . rw [if_pos h1];left;exact ⟨rfl,List.cons_lt_cons_iff.2 (.inl h1)⟩
  . rw [if_neg h1]
    by_cases h2:y < x
    . rw [if_pos h2];right;right;exact ⟨rfl,List.cons_lt_cons_iff.2 (.inl h2)⟩
    . rw [if_neg h2]
      have e:x=y:=UInt8.le_antisymm (UInt8.not_lt.1 h2) (UInt8.not_lt.1 h1)
      subst e
      rcases cmp_rng a b with ⟨h,h'⟩ | ⟨h,h'⟩ | ⟨h,h'⟩
      . exact .inl ⟨h,List.cons_lt_cons_iff.2 (.inr ⟨rfl,h'⟩)⟩
      . exact .inr (.inl ⟨h,by rw [h']⟩)
      . exact .inr (.inr ⟨h,List.cons_lt_cons_iff.2 (.inr ⟨rfl,h'⟩)⟩)
theorem cmp_neg (a b:List UInt8):Lib.compareBytes a b < 0 ↔ a < b:=by
 rcases cmp_rng a b with ⟨h,h'⟩ | ⟨h,h'⟩ | ⟨h,h'⟩
 . rw [h];simp [h']
 . rw [h,h'];simp
 . rw [h]
   have:¬ a < b:=fun x=>List.lt_irrefl _ (List.lt_trans x h')
   simp [this]
theorem cmp_zero (a b:List UInt8):Lib.compareBytes a b=0 ↔ a=b:=by
 rcases cmp_rng a b with ⟨h,h'⟩ | ⟨h,h'⟩ | ⟨h,h'⟩
 . rw [h]
   have:¬ a=b:=fun x=>List.lt_irrefl _ (x ▸ h')
   simp [this]
 . rw [h,h'];simp
 . rw [h]
   have:¬ a=b:=fun x=>List.lt_irrefl _ (x ▸ h')
   simp [this]
set_option maxRecDepth 100000 in
set_option maxHeartbeats 2000000 in
theorem find1_is (f:List UInt8) (vb:Value) (ab:Option Addr) (nb cb:Nat) (n:List UInt8) (w:World) :
 Calls Tryz.prog 200 #[.agg #[.string ⟨f.toArray⟩,.slice ab nb cb],.string ⟨n.toArray⟩] w fun e w'=>e=.returned (.int .i64 (Lib.compareBytes f n))/\Below w.heap.size w w':=by
 have hC:∀ W:World,Calls Tryz.prog 201 #[.string ⟨f.toArray⟩,.string ⟨n.toArray⟩] W fun e w'=>e=.returned (.int .i64 (Lib.compareBytes f n))/\w'=W:=fun W=>Tryz.strings_Compare ⟨f.toArray⟩ ⟨n.toArray⟩ W
 have HC:Hid _:=hC
 generalize Lib.compareBytes f n=r at *
 generalize (⟨f.toArray⟩:ByteArray)=fx at *
 generalize (⟨n.toArray⟩:ByteArray)=nx at *
 clear hC
 go_enter Tryz.func200,Tryz.ntmps200
 go_wp2_with fail
 refine Calls.mono (HC.out _) ?_
 rintro e w2 ⟨rfl,rfl⟩
 go_wp2_with fail
 go_ret
 exact ⟨rfl,boxr_of⟩
set_option maxRecDepth 100000 in
set_option maxHeartbeats 4000000 in
theorem bsearch_is (ao:Option Addr) (cap:Nat) (fs:List SFile) (n:List UInt8) (w:World) (hf:RFiles w (.slice ao fs.length cap) fs) (hr:fchkFrom none fs=0) (h12:fs.length<=12) :
 Calls Tryz.prog 199 #[.slice ao fs.length cap,.string ⟨n.toArray⟩,.func (.func 200) #[] #[]] w fun e w'=>e=.returned (.tuple #[.int .i64 (posOf fs n),.bool (thereOf fs n)])/\Below w.heap.size w w':=by
 have HF:Hid (RFiles w (.slice ao fs.length cap) fs):=hf
 have HRI:Hid (fchkFrom none fs=0):=hr
 have hple:=pos_le fs n
 obtain ⟨N,hN⟩:∃ N,N=fs.length:=⟨_,rfl⟩
 have HN:Hid (N=fs.length):=hN
 obtain ⟨p,hp⟩:∃ p,p=posOf fs n:=⟨_,rfl⟩
 have HP:Hid (p=posOf fs n):=hp
 rw [<- hN] at HF h12 hple ⊢
 rw [<- hp] at hple ⊢
 obtain ⟨nx,hnx⟩:∃ nx:ByteArray,nx=⟨n.toArray⟩:=⟨_,rfl⟩
 have HNX:Hid (nx=⟨n.toArray⟩):=hnx
 rw [<- hnx]
 clear hf hr hN hp hnx
 go_enter Tryz.func199,Tryz.ntmps199
 go_wp2_with fail
 go_loopw [9,10] (fun s9 s10 wr=>∃ lo hi:Nat,s9=.int .i64 lo/\s10=.int .i64 hi/\lo<=p/\p<=hi/\hi<=N/\Hid (Below w.heap.size w wr)) (fun s9 s10 _=>(intOf s10).toNat-(intOf s9).toNat)
 case atStart=>exact ⟨0,N,rfl,rfl,Nat.zero_le _,hple,Nat.le_refl _,Below.refl _ _⟩
 case round=>
  obtain ⟨lo,hi,rfl,rfl,hlp,hph,hhN,hbel⟩:=hrel
  by_cases hlt:lo < hi
  . obtain ⟨h,hh⟩:∃ h,h=(lo+hi) / 2:=⟨_,rfl⟩
    have hlh:lo<=h:=by omega
    have hhh:h < hi:=by omega
    obtain ⟨f,hfk⟩:∃ f,fs[h]? = some f:=⟨_,List.getElem?_eq_getElem (by have:=HN.out;omega)⟩
    have hpi:=pos_iff (n:=n) HRI.out hfk
    rw [<- HP.out] at hpi
    obtain ⟨b,off,ab,cb,rfl,hc0,hc1,hrr⟩:=(RFiles.below HF.out hbel.out).at hfk
    have HC:Hid _:=fun (W:World)=>find1_is f.name (.int .i64 0) ab f.b.length cb n W
    rw [<- HNX.out] at HC
    have hcn:=cmp_neg f.name n
    generalize Lib.compareBytes f.name n=r at *
    generalize (⟨f.name.toArray⟩:ByteArray)=fx at *
    generalize f.b.length=L at *
    clear hfk hrr
    subst hh
    by_cases hpp:(lo+hi) / 2 < p
    . have hr0:r < 0:=hcn.2 (hpi.2 hpp)
      clear hcn hpi
      go_wp2_with fail
      refine Calls.mono (HC.out _) ?_
      rintro e w3 ⟨rfl,hb3⟩
      have HB3:Hid (Below w.heap.size w w3):=hbel.out.trans (hb3.mono hbel.out.size)
      clear hb3 HC hc0 hc1
      go_wp2_with fail
      go_roundw
      case rel=>exact ⟨(lo+hi) / 2+1,hi,by rw [show ((lo:Int)+(hi:Int)) / 2+1=(((lo+hi) / 2+1:Nat):Int) by omega],rfl,by omega,hph,hhN,HB3⟩
      case measure=>simp [intOf];omega
    . have hr0:¬ r < 0:=fun x=>hpp (hpi.1 (hcn.1 x))
      clear hcn hpi
      go_wp2_with fail
      refine Calls.mono (HC.out _) ?_
      rintro e w3 ⟨rfl,hb3⟩
      have HB3:Hid (Below w.heap.size w w3):=hbel.out.trans (hb3.mono hbel.out.size)
      clear hb3 HC hc0 hc1
      go_wp2_with fail
      go_roundw
      case rel=>exact ⟨lo,(lo+hi) / 2,rfl,by rw [show ((lo:Int)+(hi:Int)) / 2=(((lo+hi) / 2:Nat):Int) by omega],hlp,by omega,by omega,HB3⟩
      case measure=>simp [intOf];omega
  . obtain rfl:lo=p:=by omega
    obtain rfl:hi=lo:=by omega
    by_cases hlN:hi < N
    . obtain ⟨f,hfk⟩:∃ f,fs[hi]? = some f:=⟨_,List.getElem?_eq_getElem (by have:=HN.out;omega)⟩
      have hth:=there_some (l:=fs) (n:=n) (by rw [<- HP.out];exact hfk)
      obtain ⟨b,off,ab,cb,rfl,hc0,hc1,hrr⟩:=(RFiles.below HF.out hbel.out).at hfk
      have HC:Hid _:=fun (W:World)=>find1_is f.name (.int .i64 0) ab f.b.length cb n W
      rw [<- HNX.out] at HC
      have hcz:=cmp_zero f.name n
      have HTH:Hid (thereOf fs n=decide (f.name=n)):=hth
      generalize Lib.compareBytes f.name n=r at *
      generalize (⟨f.name.toArray⟩:ByteArray)=fx at *
      generalize f.b.length=L at *
      clear hfk hrr hth
      by_cases hfn:f.name=n
      . have hr0:r=0:=hcz.2 hfn
        have HT:Hid (thereOf fs n=true):=(show _=_ by rw [HTH.out];exact decide_eq_true hfn)
        subst hr0
        clear hcz HTH hfn
        go_wp2_with fail
        refine Calls.mono (HC.out _) ?_
        rintro e w3 ⟨rfl,hb3⟩
        have HB3:Hid (Below w.heap.size w w3):=hbel.out.trans (hb3.mono hbel.out.size)
        clear hb3 HC hc0 hc1
        go_wp2_with fail
        go_ret2
        exact ⟨by rw [HT.out];rfl,HB3.out⟩
      . have hr0:¬ r=0:=fun x=>hfn (hcz.1 x)
        have HT:Hid (thereOf fs n=false):=(show _=_ by rw [HTH.out];exact decide_eq_false hfn)
        clear hcz HTH hfn
        go_wp2_with fail
        refine Calls.mono (HC.out _) ?_
        rintro e w3 ⟨rfl,hb3⟩
        have HB3:Hid (Below w.heap.size w w3):=hbel.out.trans (hb3.mono hbel.out.size)
        clear hb3 HC hc0 hc1
        go_wp2_with fail
        go_ret2
        exact ⟨by rw [HT.out,show false=(r == 0) by simp [hr0]];rfl,HB3.out⟩
    . have HT:Hid (thereOf fs n=false):=there_none (by rw [<- HP.out,<- HN.out];omega)
      go_wp2_with fail
      go_ret2
      exact ⟨by rw [HT.out];rfl,hbel.out⟩
set_option maxRecDepth 100000 in
set_option maxHeartbeats 2000000 in
theorem find_is (ao:Option Addr) (cap:Nat) (fs:List SFile) (n:List UInt8) (w:World) (hf:RFiles w (.slice ao fs.length cap) fs) (hr:fchkFrom none fs=0) (h12:fs.length<=12) :
 Calls Tryz.prog 154 #[.slice ao fs.length cap,.string ⟨n.toArray⟩] w fun e w'=>e=.returned (.tuple #[.int .i64 (posOf fs n),.bool (thereOf fs n)])/\Below w.heap.size w w':=by
 have HB:Hid _:=bsearch_is ao cap fs n w hf hr h12
 generalize posOf fs n=p at *
 generalize thereOf fs n=t at *
 generalize fs.length=N at *
 generalize (⟨n.toArray⟩:ByteArray)=nx at *
 clear hf hr
 go_enter Tryz.func154,Tryz.ntmps154
 go_wp2_with fail
 refine Calls.mono HB.out ?_
 rintro e w1 ⟨rfl,hb1⟩
 have HB1:Hid (Below w.heap.size w w1):=hb1
 clear hb1 HB
 go_wp2_with fail
 go_ret2
 exact ⟨rfl,HB1.out⟩
theorem infoU8S:(Tryz.prog.info? 5).map (fun i=>(i.zero,i.size,i.bytes))=some (some (.int .u8 0),1,1):=by kernel_rfl
theorem reads_none0 (w:World):Reads w (.slice none 0 0) 0 []:=⟨rfl,none,0,rfl,Nat.le_refl _,by simp [maxLen],fun h=>absurd rfl h⟩
theorem U_one {bs:List UInt8}:∀ u ∈ bs.map U,u.oneCell'=true:=by
 intro u hu
 obtain ⟨x,_,rfl⟩:=List.mem_map.1 hu
 rfl
set_option maxRecDepth 100000 in
set_option maxHeartbeats 2000000 in
theorem bclone_is (ab:Option Addr) (cb:Nat) (bs:List UInt8) (w:World) (hr:Reads w (.slice ab bs.length cb) bs.length (bs.map U)) (hl:bs.length<=100000) :
 Calls Tryz.prog 125 #[.slice ab bs.length cb] w fun e w'=>∃ ar cr,e=.returned (.slice ar bs.length cr)/\Reads w' (.slice ar bs.length cr) bs.length (bs.map U)/\(∀ a,ar=some a->w.heap.size<=a.block)/\Below w.heap.size w w':=by
 obtain ⟨i0,hi,hi0,hi1,hi2⟩:=info_parts infoU8S
 have hq:∀ (w:World) (a:Option Addr) (n c n' c':Nat),(binOp .eql 28 (.slice a n c) (.slice none n' c')).run Tryz.prog w=.ok (.bool a.isNone) w:=fun w a n c n' c'=>Lib.run_eql_slice_nil w _ _ a n c n' c' Tryz.underlying28
 obtain ⟨h1,ao,cap,e,h2,h3,h4⟩:=hr
 injection e with e1 e2 e3
 subst e1 e3
 cases ab with
 | none=>
  have h0:bs=[]:=by
   cases bs with
   | nil=>rfl
   | cons x r=>obtain ⟨b,off,e,_⟩:=h4 (by simp);cases e
  subst h0
  clear h4 h1
  go_enter Tryz.func125,Tryz.ntmps125
  go_wp2_with fail
  go_ret
  exact ⟨none,0,rfl,reads_none0 _,(fun a h=>by cases h),Below.refl _ _⟩
 | some a=>
  have hcell:∀ j u,(bs.map U)[j]? = some u->w.cell? (a.add j)=some u:=by
   intro j u hj
   have:0 < bs.length:=by
    have:=(List.getElem?_eq_some_iff.1 hj).1
    simp at this
    omega
   obtain ⟨b,off,e,hc⟩:=h4 (by omega)
   injection e with e
   subst e
   rw [addF]
   exact hc j u hj
  have HC:Hid _:=hcell
  obtain ⟨xs,hxs⟩:∃ xs,xs=bs.map U:=⟨_,rfl⟩
  have HX:Hid (xs=bs.map U):=hxs
  obtain ⟨N,hN⟩:∃ N,N=bs.length:=⟨_,rfl⟩
  have HN:Hid (N=bs.length):=hN
  have HXL:Hid (xs.length=N):=(show _=_ by rw [hxs,hN,List.length_map])
  rw [<- hxs] at HC
  rw [<- hxs,<- hN]
  rw [<- hN] at hl
  clear h4 h1 hcell hxs hN h2 h3
  go_enter Tryz.func125,Tryz.ntmps125
  go_wp2_with (at_builtin;refine wpList_append_own _ rfl _ _ 28 rfl w.heap.size 5 i0 (.int .u8 0) 1 1 Tryz.underlying28 hi hi0 hi1 hi2 rfl (by decide) _ _ _ rfl (World.ownsRow_made w #[] 0 (Nat.le_refl _) (Nat.zero_le _) rfl) a N cb xs rfl ?qc1 ?qc2 ?qc3 ?qc4 ?qc5 ?qc6 ?_)
  case qc1=>first | (rw [HXL.out];done) | (rw [HXL.out,Nat.mul_one])
  case qc2=>
   intro j u hj
   have h:=HC.out j u hj
   rw [boxr_of.cell (World.block_lt_of_cell? w _ h)]
   exact h
  case qc3=>rw [HX.out];exact U_one
  case qc4=>unfold maxLen;omega
  case qc5=>omega
  all_goals try (case qc6=>simp)
  . intro v' w1 hown hg hnil
    have HB:Hid (Below w.heap.size w w1):=boxr_of.grown hg (by simp) (fun k hk=>by injection hk with hk;subst hk;exact Nat.le_refl _)
    have hown':w1.ownsRow w.heap.size 5 1 v' N xs:=by simpa using hown
    have HO:Hid (w1.ownsRow w.heap.size 5 1 v' N xs):=hown'
    have HR:Hid (∃ ar cr,v'=.slice ar N cr /\ ∀ a,ar=some a->w.heap.size<=a.block):=(show ∃ ar cr,v'=.slice ar N cr /\ ∀ a,ar=some a->w.heap.size<=a.block by
     rcases hown'.2 with ⟨rfl,h0⟩ | ⟨g,cap,cur,rfl,hb,_⟩
     . exact ⟨none,0,by rw [h0],fun a h=>by cases h⟩
     . exact ⟨_,cap,rfl,fun a h=>by injection h with h;subst h;exact hb⟩)
    clear hown hg hnil hown'
    go_wp2
    go_ret
    obtain ⟨ar,cr,hv,hn⟩:=HR.out
    refine ⟨ar,cr,by rw [<- hv];rfl,?_,hn,HB.out⟩
    rw [<- hv]
    exact Reads.of_owns HO.out
def getS (fs:List SFile) (n:List UInt8):List UInt8 × Int:=if fchk fs=0 then (fileOf fs n,0) else ([],fchk fs)
def GetEnd (w:World) (res:List UInt8 × Int) (e:Ending) (w':World):Prop:=∃ ar cr,e=.returned (.tuple #[.slice ar res.1.length cr,.int .i64 res.2])/\Reads w' (.slice ar res.1.length cr) res.1.length (res.1.map U)/\Below w.heap.size w w'
theorem getEnd_none {w w':World} {res:List UInt8 × Int} {e:Ending} {r:Int} (h:res=([],r)) (he:e=.returned (.tuple #[.slice none 0 0,.int .i64 r])) (hb:Below w.heap.size w w'):GetEnd w res e w':=by
 subst h
 exact ⟨none,0,he,reads_none0 w',hb⟩
set_option maxRecDepth 100000 in
set_option maxHeartbeats 4000000 in
theorem get_is (ao:Option Addr) (cap:Nat) (fs:List SFile) (n:List UInt8) (w:World) (hf:RFiles w (.slice ao fs.length cap) fs) (hfit:∀ f ∈ fs,FitsF f) :
 Calls Tryz.prog 146 #[.slice ao fs.length cap,.string ⟨n.toArray⟩] w fun e w'=>GetEnd w (getS fs n) e w':=by
 have hC:=fcheck_is ao cap fs w hf hfit
 have HC:Hid _:=hC
 have HF:Hid (RFiles w (.slice ao fs.length cap) fs):=hf
 obtain ⟨N,hN⟩:∃ N,N=fs.length:=⟨_,rfl⟩
 have HN:Hid (N=fs.length):=hN
 obtain ⟨nx,hnx⟩:∃ nx:ByteArray,nx=⟨n.toArray⟩:=⟨_,rfl⟩
 have HNX:Hid (nx=⟨n.toArray⟩):=hnx
 obtain ⟨ck,hck⟩:∃ ck,ck=fchk fs:=⟨_,rfl⟩
 have HCK:Hid (ck=fchk fs):=hck
 rw [<- hN,<- hck] at HC
 rw [<- hN,<- hnx]
 rw [<- hN] at HF
 clear hf hfit hC hN hnx hck
 by_cases h0:ck=0
 . subst h0
   obtain ⟨hl12,hri⟩:=fchk_zero HCK.out.symm
   have HRI:Hid _:=hri
   have HFI:Hid _:=fun (W:World) (hb:Below w.heap.size w W)=>find_is ao cap fs n W (by rw [<- HN.out];exact HF.out.below hb) hri hl12
   rw [<- HN.out,<- HNX.out] at HFI
   have HGS:Hid (getS fs n=(fileOf fs n,0)):=(show _=_ by unfold getS;rw [if_pos HCK.out.symm])
   rw [<- HN.out] at hl12
   have hpl:=pos_le fs n
   obtain ⟨p,hp⟩:∃ p,p=posOf fs n:=⟨_,rfl⟩
   have HP:Hid (p=posOf fs n):=hp
   obtain ⟨t,ht⟩:∃ t,t=thereOf fs n:=⟨_,rfl⟩
   have HT:Hid (t=thereOf fs n):=ht
   rw [<- hp,<- ht] at HFI
   rw [<- hp,<- HN.out] at hpl
   clear hri hp ht
   go_enter Tryz.func146,Tryz.ntmps146
   go_wp2_with fail
   refine Calls.mono HC.out ?_
   rintro e w1 ⟨rfl,hb1⟩
   have HB1:Hid (Below w.heap.size w w1):=hb1
   clear hb1 HC
   go_wp2_with fail
   have hQ:=HFI.out w1 HB1.out
   refine Calls.mono hQ ?_
   rintro e w2 ⟨rfl,hb2⟩
   have HB2:Hid (Below w.heap.size w w2):=HB1.out.trans (hb2.mono HB1.out.size)
   clear hb2 hQ HFI HB1
   cases t with
   | false=>
    have HGN:Hid (getS fs n=([],0)):=(show _=_ by rw [HGS.out,file_not HRI.out HT.out.symm])
    go_wp2_with fail
    go_ret2
    exact getEnd_none HGN.out rfl HB2.out
   | true=>
    obtain ⟨f,hfk,hfn⟩:=there_get HT.out.symm
    have HGF:Hid (getS fs n=(f.b,0)):=(show _=_ by rw [HGS.out,file_there HRI.out HT.out.symm hfk])
    rw [<- HP.out] at hfk
    have hpN:p < N:=by have:=(List.getElem?_eq_some_iff.1 hfk).1;rw [HN.out];exact this
    obtain ⟨b,off,ab,cb,rfl,hc0,hc1,hrr⟩:=(RFiles.below HF.out HB2.out).at hfk
    have hb4:=(from_all HRI.out f (List.mem_of_getElem? hfk)).2
    have HQ:Hid _:=fun (W:World) (hb:Below w2.heap.size w2 W)=>bclone_is ab cb f.b W (Reads.below hrr hb) (by omega)
    obtain ⟨L,hL⟩:∃ L,L=f.b.length:=⟨_,rfl⟩
    have HL:Hid (L=f.b.length):=hL
    rw [<- hL] at hc1 HQ
    generalize (⟨f.name.toArray⟩:ByteArray)=fx at *
    clear hfk hfn hrr hb4 hL
    go_wp2_with fail
    have hQ:=HQ.out w2 (Below.refl _ _)
    refine Calls.mono hQ ?_
    rintro e w3 ⟨ar,cr,rfl,hrd3,hnew,hb3⟩
    have HB3:Hid (Below w.heap.size w w3):=HB2.out.trans (hb3.mono HB2.out.size)
    have HR3:Hid _:=hrd3
    clear hQ HQ hrd3 hnew hb3
    go_wp2_with fail
    go_ret2
    refine ⟨ar,cr,?_,?_,HB3.out⟩
    . rw [HGF.out,<- HL.out];rfl
    . rw [HGF.out];have:=HR3.out;rw [HL.out] at this;exact this
 . have HGS:Hid (getS fs n=([],ck)):=(show _=_ by unfold getS;rw [<- HCK.out,if_neg h0])
   go_enter Tryz.func146,Tryz.ntmps146
   go_wp2_with fail
   refine Calls.mono HC.out ?_
   rintro e w1 ⟨rfl,hb1⟩
   have HB1:Hid (Below w.heap.size w w1):=hb1
   clear hb1 HC
   go_wp2_with fail
   go_ret2
   exact getEnd_none HGS.out rfl HB1.out
end Go.Proofs.YtllgglolcgdehaaGreatDoor
