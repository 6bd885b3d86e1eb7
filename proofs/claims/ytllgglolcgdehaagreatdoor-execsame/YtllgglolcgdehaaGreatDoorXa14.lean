/- What the developers' command's Over does, and more. -/
import Derived.Test.YtllgglolcgdehaaGreatDoorXa13
set_option maxRecDepth 100000
set_option maxHeartbeats 16000000
namespace Go.Proofs.YtllgglolcgdehaaGreatDoor
open Go.RowKit Go.Gs
set_option linter.unusedVariables false
theorem clone_in {w W:World} {bx:Nat} {a b c:Value} (v:Value) (ls:List (List UInt8)) (hr:Reads W v ls.length (ls.map S)) (hl:ls.length<=1000000) (hB:Below w.heap.size w W) (h0:W.cell? ⟨bx,0,none⟩=some a) (h1:W.cell? ⟨bx,1,none⟩=some b) (h2:W.cell? ⟨bx,2,none⟩=some c) :
 Calls Tryz.prog 194 #[v] W fun e w'=>∃r,e=.returned r/\Hid (w'.ownsRow W.heap.size 9 1 r ls.length (ls.map S))/\Hid (Below W.heap.size W w')/\w'.cell? ⟨bx,0,none⟩=some a/\w'.cell? ⟨bx,1,none⟩=some b/\w'.cell? ⟨bx,2,none⟩=some c:=by
 refine (clone_is v ls W hr hl).mono ?_
 rintro e w' ⟨r,rfl,h3,h4⟩
 have hlt:bx<W.heap.size:=bLt W _ h0
 exact⟨r,rfl,h3,h4,(h4.cell (p:=⟨bx,0,none⟩) hlt).trans h0,(h4.cell (p:=⟨bx,1,none⟩) hlt).trans h1,(h4.cell (p:=⟨bx,2,none⟩) hlt).trans h2⟩
theorem cover_is (c:Cmd) (hc:chk c=0) (v:Value) (ls:List (List UInt8)) (w:World) (hw:c.word.length<=9223372036854775807) (hr:Reads w v ls.length (ls.map S)) (hl:ls.length<=300000) (hsz:∀s∈ls,s.length<=300000) (hK:Known w) :
 Calls Tryz.prog 149 #[c.v,v] w fun e w'=>∃r,e=.returned (.tuple #[r,.int .i64 0])/\Reads w' r (made c ls).length ((made c ls).map S)/\Below w.heap.size w w':=by
 have hchk:=fun W=>check_is c W hw
 rw[hc] at hchk
 have hover:=fun (v:Value) (W:World) (B:Nat) hB0 hB ho hK=>over_is c hc v ls W B hB0 hB ho hl hsz hK
 have hml:0 < w.heap.size:=by
  obtain⟨⟨m,hm⟩,_⟩:=hK
  exact bLt w _ hm
 obtain⟨k,word,n⟩:=c
 unfold Cmd.v at hchk hover ⊢
 simp only at hchk hover ⊢
 have HR:Hid (Reads w v ls.length (ls.map S)):=hr
 have HO:Hid _:=hover
 have HK:Hid (Known w):=hK
 have HM:Hid _:=hml
 clear hr hover hK hml
 generalize made ⟨k,word,n⟩ ls=M at *
 generalize (⟨word.toArray⟩:ByteArray)=sx at *
 go_enter Tryz.func149,Tryz.ntmps149
 go_wp2_with fail
 refine (hchk _).mono ?_
 rintro e w1 ⟨rfl,hb1⟩
 obtain⟨x0,x1,x2⟩:=jbox_cells hb1
 have HB:Hid (Below w.heap.size w w1):=box_of.trans (hb1.mono (by simp))
 clear hb1 hchk
 go_upto_region 4 with fail
 have HBd:Hid (Below w.heap.size w w1.drew):=HB.out.drew
 have HRd:Hid (Reads w1.drew v ls.length (ls.map S)):=HR.out.below HBd.out
 go_region_with (first
  | (go_at_call 194;refine (clone_in v ls HRd.out (by omega) HBd.out x0 x1 x2).mono ?_;rintro e w2 ⟨r2,rfl,O2,B2,y0,y1,y2⟩)
  | (go_at_call 157;refine (HO.out r2 w2 w1.heap.size (Nat.lt_of_lt_of_le HM.out HB.out.size) B2.out.size O2.out ((HK.out.below HBd.out).below B2.out)).mono ?_;rintro e w3 ⟨r3,rfl,R3,B3⟩))
 all_goals
  have HR3:Hid _:=R3
  have HB3:Hid (Below w.heap.size w w3):=HBd.out.trans ((B2.out.mono HBd.out.size).trans (B3.mono HB.out.size))
  clear R3 B3
  go_wp2_with fail
  go_ret2
  exact⟨r3,rfl,HR3.out,HB3.out⟩
def LRow (w wr:World) (G:Nat) (cur:List (List (List UInt8))):Prop:=
 ∃vs:List Value,wr.heap[G]? = some (.cells vs.toArray 53 (0,0))/\vs.length=cur.length /\ ∀(j:Nat) (p:List (List UInt8)),cur[j]? = some p -> ∃u,vs[j]? = some u/\Reads w u p.length (p.map S)
theorem LRow.rlist {w wr:World} {G:Nat} {cur:List (List (List UInt8))} (h:LRow w wr G cur) (hb:Below w.heap.size w wr) (hn:cur.length<=1000):RList wr (.slice (some ⟨G,0,none⟩) cur.length cur.length) S cur:=by
 obtain⟨vs,h1,h2,h3⟩:=h
 refine⟨vs,⟨h2,_,_,rfl,Nat.le_refl _,by unfold maxLen;omega,fun _=>⟨G,0,rfl,fun j u hu=>?_⟩⟩,fun j p hj=>?_⟩
 . rw[Nat.zero_add,cell_of_row _ _ _ _ _ _ h1]
   simpa using hu
 . obtain⟨u,h4,h5⟩:=h3 j p hj
   exact⟨u,h4,h5.below hb⟩
theorem LRow.keep {w wr wr':World} {G:Nat} {cur:List (List (List UInt8))} (h:LRow w wr G cur) (hk:wr'.heap[G]? = wr.heap[G]?):LRow w wr' G cur:=by
 obtain⟨vs,h1,h2,h3⟩:=h
 exact⟨vs,by rw[hk];exact h1,h2,h3⟩
theorem reads_cut {w:World} {b off n cu:Nat} {x:List UInt8} {r:List (List UInt8)} (h:Reads w (.slice (some ⟨b,off,none⟩) n cu) (x::r).length ((x::r).map S)) (a':Option Addr) (ha:cu≠1->a'=some ⟨b,off+1,none⟩):Reads w (.slice a' r.length (cu-1)) r.length (r.map S):=by
 obtain⟨h1,ao,cap,e,h2,h3,h4⟩:=h
 injection e with e1 e2 e3
 subst e1 e3
 simp only[List.length_cons] at h2
 refine⟨by simp,a',cu-1,rfl,by omega,Nat.le_trans (Nat.sub_le _ _) h3,fun hr=>?_⟩
 obtain⟨b',off',e,hc⟩:=h4 (by simp)
 injection e with e
 injection e with e1 e2
 subst e1 e2
 refine⟨b,off+1,ha (by omega),fun j u hu=>?_⟩
 rw[Nat.add_assoc,Nat.add_comm 1 j]
 exact hc (j+1) u (by simpa using hu)
theorem LRow.step {w wr:World} {G k:Nat} {cur:List (List (List UInt8))} {x:List UInt8} {r:List (List UInt8)} {b off n cu:Nat} (h:LRow w wr G cur) (hk:cur[k]? = some (x::r)) (hr:Reads w (.slice (some ⟨b,off,none⟩) n cu) (x::r).length ((x::r).map S)) (a':Option Addr) (ha:cu≠1->a'=some ⟨b,off+1,none⟩):LRow w (wr.setCell ⟨G,k,none⟩ (.slice a' r.length (cu-1))) G (cur.modify k (List.drop 1)):=by
 obtain⟨vs,h1,h2,h3⟩:=h
 obtain⟨hkl,_⟩:=gSm hk
 refine⟨vs.set k (.slice a' r.length (cu-1)),?_,by simp[h2],fun j p hj=>?_⟩
 . rw[heap_setCell_same _ _ _ _ _ _ h1]
   simp
 .
  rw[List.getElem?_modify] at hj
  by_cases hjk:k=j
  . subst hjk
    rw[hk] at hj
    simp at hj
    subst hj
    exact⟨_,List.getElem?_set_self (by omega),reads_cut hr a' ha⟩
  . simp[hjk] at hj
    obtain⟨u,h4,h5⟩:=h3 j p hj
    exact⟨u,by rw[List.getElem?_set_ne hjk];exact h4,h5⟩
theorem LRow.at {w wr:World} {G k:Nat} {cur:List (List (List UInt8))} {x:List UInt8} {r:List (List UInt8)} (h:LRow w wr G cur) (hk:cur[k]? = some (x::r)):∃b off cu sx,wr.cell? ⟨G,k,none⟩=some (.slice (some ⟨b,off,none⟩) (r.length+1) cu)/\Reads w (.slice (some ⟨b,off,none⟩) (r.length+1) cu) (x::r).length ((x::r).map S)/\w.cell? ⟨b,off,none⟩=some (.string sx)/\Value.string sx=S x/\r.length+1<=cu/\cu<=9223372036854775807:=by
 obtain⟨vs,h1,h2,h3⟩:=h
 obtain⟨u,h4,h5⟩:=h3 k _ hk
 obtain⟨_,ao,cap,rfl,_⟩:=id h5
 obtain⟨b,off,sx,rfl,hc,hs,h6,h7⟩:=reads_first h5
 refine⟨b,off,cap,sx,?_,h5,hc,hs,h7,h6⟩
 rw[cell_of_row _ _ _ _ _ _ h1]
 simpa using h4
theorem merge_step {cur:List (List (List UInt8))} {m k:Nat} {x:List UInt8} (h:least cur=some (k,x)):mergeN (m+1) cur=x::mergeN m (cur.modify k (List.drop 1)):=by
 conv=>lhs;unfold mergeN
 rw[h]
theorem infoList:(Tryz.prog.info? 53).map (fun i=>(i.zero,i.size,i.bytes))=some (some (.slice none 0 0),1,24):=by kernel_rfl
theorem infoList1:(Tryz.prog.info? 53).map (·.size)=some 1:=by kernel_rfl
theorem out_set {D:List (List UInt8)} {x:List UInt8} {m i:Nat} (hi:D.length=i):((D.map S++List.replicate (m+1) (S [])).toArray).setIfInBounds i (S x)=((D++[x]).map S++List.replicate m (S [])).toArray:=by
 rw[List.setIfInBounds_toArray,List.set_append_right _ _ (by simp;omega)]
 simp[hi,List.replicate_succ]
def MRel (w wr:World) (ps:List (List (List UInt8))) (T GL GO:Nat) (i:Nat):Prop:=
 ∃(D:List (List UInt8)) (cur:List (List (List UInt8))),D.length=i/\cur.length=ps.length/\cur.flatten.length=T-i/\D++mergeN (T-i) cur=mergeN T ps/\LRow w wr GL cur/\wr.heap[GO]? = some (.cells (D.map S++List.replicate (T-i) (S [])).toArray 9 (0,0))/\Below w.heap.size w wr
theorem merge_is (v:Value) (ps:List (List (List UInt8))) (w:World) (hp:RList w v S ps) (hn:ps.length<=1000) (hb:ps.flatten.length<=1000000) :
 Calls Tryz.prog 196 #[v] w fun e w'=>∃r,e=.returned r/\Reads w' r (mergeOf ps).length ((mergeOf ps).map S)/\Below w.heap.size w w':=by
 obtain⟨i0,hi,hz0,hz1,hz2⟩:=info_parts infoStr
 obtain⟨i1,hi',hy0,hy1,hy2⟩:=info_parts infoList
 have hcount:=fun (W:World) (h:Below w.heap.size w W)=>count_is v ps W (hp.below h) hn (by omega)
 obtain⟨ao,cap,rfl,hc1,hc2⟩:=hp.shape
 have HP:Hid (RList w (.slice ao ps.length cap) S ps):=hp
 obtain⟨N,hN⟩:∃N,N=ps.length:=⟨_,rfl⟩
 have HN:Hid (N=ps.length):=hN
 have hN4:N<=1000:=by omega
 obtain⟨T,hT⟩:∃T,T=ps.flatten.length:=⟨_,rfl⟩
 have HT:Hid (T=ps.flatten.length):=hT
 have hTb:T<=1000000:=by omega
 have hb2:i0.bytes*T<=281474976710656:=by rw[hz2];omega
 have hb3:T<=maxLen:=by unfold maxLen;omega
 have hb4:i1.bytes*N<=281474976710656:=by rw[hy2];omega
 have hb5:N<=maxLen:=by unfold maxLen;omega
 rw[<- hT,<- hN] at hcount
 rw[<- hN]
 have HCt:Hid _:=hcount
 clear hN hp hn hc1 hc2 hT hb hcount
 go_enter Tryz.func196,Tryz.ntmps196
 go_wp2_with (at_make;refine wpList_make_full _ rfl (.tmp 8) (.tmp 8) 190 rfl w.heap.size 53 i1 (.slice none 0 0) 1 Tryz.underlying190 hi' hy0 hy1 .i64 .i64 _ _ N rfl rfl rfl rfl hb4 hb5 (Nat.le_refl _) ?_)
 intro w1 hout1 hgrow1
 have HB1:Hid (Below w.heap.size w w1):=below_grown hgrow1 (Nat.le_refl _)
 have hsz1:w.heap.size<w1.heap.size:=by
  have:=(row_of_owns hout1).1
  rcases Nat.lt_or_ge w.heap.size w1.heap.size with h | h
  . exact h
  . rw[Array.getElem?_eq_none h] at this;cases this
 obtain⟨L0,hL0⟩:∃L0,L0=List.replicate N (.slice none 0 0:Value):=⟨_,rfl⟩
 have hL0l:L0.length=N:=by rw[hL0];simp
 have HR1:Hid (w1.heap[w.heap.size]? = some (.cells L0.toArray 53 (0,0))):=by
  have:=(row_of_owns hout1).1
  rw[toList_madeCells_one,<- hL0] at this
  exact this
 clear hout1 hgrow1 hL0
 obtain⟨us,hus1,hus2⟩:=id HP.out
 have husl:us.length=N:=by rw[HN.out];exact hus1.1
 have HU2:Hid _:=hus2
 have HU1:Hid _:=hus1
 clear hus1 hus2
 go_wp2_with (refine wpList_copy_splice rfl (.tmp 10) (.tmp 11) 190 190 rfl 53 Tryz.underlying190 infoList1 (some ⟨w.heap.size,0,none⟩) ao N N N cap rfl rfl w.heap.size 0 L0 53 HR1.out us ?c1 ?c2 ?c3 ?c4 w.heap.size w HB1.out (Nat.le_refl _) ?_)
 case c1=>rw[husl];exact (Nat.min_self N).symm
 case c2=>
  intro h0
  obtain⟨_,ao',cap',e,_,_,h5⟩:=HU1.out
  injection e with e1 e2 e3
  obtain⟨b',off',e4,hc⟩:=h5 (by rw[<- HN.out];omega)
  refine⟨⟨b',off',none⟩,e1.trans e4,fun j u hu=>?_⟩
  have hadd:(⟨b',off',none⟩:Addr).add j=⟨b',off'+j,none⟩:=by unfold Addr.add;split <;> simp_all
  rw[hadd]
  have hcj:=hc j u hu
  exact (HB1.out.cell (bLt w _ hcj)).trans hcj
 case c3=>omega
 case c4=>
  intro u hu
  obtain⟨j,hj,rfl⟩:=List.mem_iff_getElem.1 hu
  obtain⟨u',h1,h2⟩:=HU2.out j (ps[j]'(by have:=HN.out;omega)) (gEl _)
  rw[gEl hj] at h1
  injection h1 with h1
  obtain⟨_,ao',cap',e,_⟩:=h2
  rw[h1,e];rfl
 intro w2 hr2 hb2'
 have HB2:Hid (Below w.heap.size w w2):=hb2'
 have hsz2:w.heap.size<w2.heap.size:=by
  have:=hr2.out
  rcases Nat.lt_or_ge w.heap.size w2.heap.size with h | h
  . exact h
  . rw[Array.getElem?_eq_none h] at this;cases this
 have HL2:Hid (LRow w w2 w.heap.size ps):=⟨us,by
  have:=hr2.out
  rw[this]
  congr 3
  unfold splice
  rw[List.take_zero,List.nil_append,Nat.zero_add,List.drop_of_length_le (by omega),List.append_nil],by rw[husl];exact HN.out,HU2.out⟩
 clear hr2 hb2' HU1 HU2 husl HR1
 go_wp2_with (first | (go_at_call 251;refine (HCt.out w2 HB2.out).mono ?_;rintro e w9 ⟨rfl,hw9⟩;obtain rfl:w2=w9:=hw9.symm) | (at_make;refine wpList_make_full _ rfl (.tmp 14) (.tmp 14) 53 rfl w2.heap.size 9 i0 (.string ⟨#[]⟩) 1 Tryz.underlying53 hi hz0 hz1 .i64 .i64 _ _ T rfl rfl rfl rfl hb2 hb3 (Nat.le_refl _) ?_))
 intro w3 hout3 hgrow3
 have HB3:Hid (Below w.heap.size w w3):=HB2.out.trans (below_grown hgrow3 (Nat.le_of_lt hsz2))
 have HM3:Hid (MRel w w3 ps T w.heap.size w2.heap.size 0):=by
  refine⟨[],ps,rfl,rfl,by rw[<- HT.out];rfl,rfl,HL2.out.keep ((below_grown hgrow3 (Nat.le_refl _)).block _ hsz2),?_,HB3.out⟩
  have:=(row_of_owns hout3).1
  rw[toList_madeCells_one] at this
  exact this
 clear hout3 hgrow3 HL2 HB3 HB2 HB1 hw9 HCt
 generalize hGO:w2.heap.size=GO at *
 clear hGO
 go_wp2_with fail
 go_loopw [18] (fun i wr=>∃k:Nat,k<=T/\i=.int .i64 k/\Hid (MRel w wr ps T w.heap.size GO k)) (fun i _=>T-(intOf i).toNat)
 case atStart=>exact⟨0,Nat.zero_le _,rfl,HM3.out⟩
 case round=>
  obtain⟨i,hiT,rfl,hrel⟩:=hrel
  obtain⟨D,cur,hD,hcl,hfl,hmg,hlr,hor,hbel⟩:=hrel.out
  clear hrel
  by_cases hlt:i<T
  .
   obtain⟨k,x,hlx⟩:∃k x,least cur=some (k,x):=by
    cases h:least cur with
    | none=>rw[least_none h] at hfl;simp at hfl;omega
    | some q=>exact⟨q.1,q.2,rfl⟩
   obtain⟨r,hck,_⟩:=least_some hlx
   have hkl:k<cur.length:=(gSm hck).1
   obtain⟨b,off,cu,sx,hcG,hru,hcx,hsx,hcu1,hcu2⟩:=hlr.at hck
   have hle:=least_is _ cur wr (hlr.rlist hbel (by have:=HN.out;omega)) (by have:=HN.out;omega)
   rw[hcl,<- HN.out,hlx] at hle
   have hcxr:wr.cell? ⟨b,off,none⟩=some (.string sx):=(hbel.cell (bLt w _ hcx)).trans hcx
   have hne:GO≠w.heap.size:=by omega
   obtain⟨m,hm⟩:∃m,T-i=m+1:=⟨T-i-1,by omega⟩
   have hTi:T-(i+1)=m:=by omega
   rw[hm] at hfl hmg hor
   have HREL:Hid (∀(w4:World),w4.heap=wr.heap->Below w.heap.size w w4 -> ∀a',(cu≠1->a'=some ⟨b,off+1,none⟩)->MRel w ((w4.setCell ⟨GO,i,none⟩ (.string sx)).setCell ⟨w.heap.size,k,none⟩ (.slice a' r.length (cu-1))) ps T w.heap.size GO (i+1)):=by
    intro w4 h4 hb4 a' ha
    refine⟨D++[x],cur.modify k (List.drop 1),by simp[hD],by simp[hcl],?_,?_,?_,?_,?_⟩
    . have:=modify_length hck
      rw[hTi];omega
    . rw[hTi,<- hmg,merge_step hlx];simp
    . refine LRow.step ?_ hck hru a' ha
      exact hlr.keep (by rw[heap_setCell_other _ _ _ _ (Ne.symm hne),h4])
    . rw[heap_setCell_other _ _ _ _ hne,heap_setCell_same _ _ _ _ _ _ (by rw[h4];exact hor),hTi,hsx,out_set hD]
    . exact (hb4.setCell (by simp;omega) _).setCell (by simp) _
   have hcO:wr.cell? ⟨GO,i,none⟩=some (S []):=by
    rw[cell_of_row _ _ _ _ _ _ hor]
    simp[hD]
   have hfO:wr.frozen? ⟨GO,i,none⟩=false:=frozen_of_row _ _ _ _ _ hor
   have hfG:wr.frozen? ⟨w.heap.size,k,none⟩=false:=by
    obtain⟨vs,h1,_⟩:=hlr
    exact frozen_of_row _ _ _ _ _ h1
   have Hsx:Hid _:=hsx
   have HB:Hid (Below w.heap.size w wr):=hbel
   have hkN:k<N:=by have:=HN.out;omega
   simp only[lix] at hle
   clear hsx hbel hlr hor hmg hru hcx hfl hcl hD hck hlx hkl
   generalize r.length=rl at *
   go_wp2_with (go_at_call 252;refine hle.mono ?_;rintro e w4 ⟨rfl,q,rfl⟩)
   have g1:(wr.drewN q).cell? ⟨w.heap.size,k,none⟩=some (.slice (some ⟨b,off,none⟩) (rl+1) cu):=hcG
   have g2:(wr.drewN q).cell? ⟨b,off,none⟩=some (.string sx):=hcxr
   have g3:(wr.drewN q).cell? ⟨GO,i,none⟩=some (S []):=hcO
   have g4:(wr.drewN q).frozen? ⟨GO,i,none⟩=false:=hfO
   have g5:(wr.drewN q).frozen? ⟨w.heap.size,k,none⟩=false:=hfG
   have g6:((wr.drewN q).setCell ⟨GO,i,none⟩ (.string sx)).cell? ⟨w.heap.size,k,none⟩=some (.slice (some ⟨b,off,none⟩) (rl+1) cu):=by
    rw[World.cell?_setCell_other _ _ _ _ (by intro e;injection e with e;exact hne e)];exact g1
   have g7:((wr.drewN q).setCell ⟨GO,i,none⟩ (.string sx)).frozen? ⟨w.heap.size,k,none⟩=false:=by rw[World.frozen?_setCell];exact g5
   have HR4:Hid _:=HREL.out (wr.drewN q) rfl (below_dn HB.out _)
   clear hcG hcxr hcO hfO hfG hle HREL
   go_wp2_with fail
   go_roundw
   case rel=>exact⟨i+1,by omega,by go_num,HR4.out _ (fun h=>by rw[if_neg h])⟩
   case measure=>simp[intOf];omega
  .
   have hiT2:i=T:=by omega
   have HO:Hid (Reads wr (.slice (some ⟨GO,0,none⟩) T T) (mergeOf ps).length ((mergeOf ps).map S)):=by
    rw[hiT2,Nat.sub_self] at hmg hor
    have e:D=mergeOf ps:=by
     have:D++mergeN 0 cur=D:=by simp[mergeN]
     rw[this] at hmg
     rw[hmg]
     unfold mergeOf
     rw[HT.out]
    simp only[List.replicate_zero,List.append_nil] at hor
    have h1:=owns_of_row (B:=0) (n:=T) hor (by simp[hD,hiT2]) (Nat.zero_le _) (by omega)
    have h2:=Reads.of_owns h1
    have h3:(mergeOf ps).length=T:=by rw[<- e];omega
    rw[h3,<- e]
    exact h2
   have HB:Hid (Below w.heap.size w wr):=hbel
   clear hmg hor hlr hfl hbel hD hcl
   go_wp2_with fail
   go_ret
   exact⟨_,rfl,HO.out,HB.out⟩
theorem jchk_how {how:Int} {c:Cmd} (h:jchk how c=0):how=1\/how=2\/how=3\/how=4:=by
 unfold jchk at h
 by_cases hr:how<1\/4<how
 . rw[if_pos hr] at h;cases h
 . omega
theorem joined1 (c:Cmd) (ps:List (List (List UInt8))):joined 1 c ps=ps.flatten:=by simp[joined]
theorem joined2 (c:Cmd) (ps:List (List (List UInt8))):joined 2 c ps=mergeOf ps:=by simp[joined]
theorem joined3 (c:Cmd) (ps:List (List (List UInt8))):joined 3 c ps=[Lib.itoa (sumOf ps:Int)]:=by simp[joined]
theorem joined4 (c:Cmd) (ps:List (List (List UInt8))):joined 4 c ps=made c ps.flatten:=by simp[joined]
theorem behind_in {w W:World} {bx:Nat} {a b c:Value} (v:Value) (ps:List (List (List UInt8))) (hp:RList W v S ps) (hn:ps.length<=1000) (hl:ps.flatten.length<=1000000) (hB:Below w.heap.size w W) (h0:W.cell? ⟨bx,0,none⟩=some a) (h1:W.cell? ⟨bx,1,none⟩=some b) (h2:W.cell? ⟨bx,2,none⟩=some c) :
 Calls Tryz.prog 198 #[v] W fun e w'=>∃r,e=.returned r/\Hid (Reads w' r ps.flatten.length (ps.flatten.map S))/\Hid (Below W.heap.size W w')/\w'.cell? ⟨bx,0,none⟩=some a/\w'.cell? ⟨bx,1,none⟩=some b/\w'.cell? ⟨bx,2,none⟩=some c:=by
 refine (behind_is v ps W hp hn hl).mono ?_
 rintro e w' ⟨r,rfl,h3,h4⟩
 have hlt:bx<W.heap.size:=bLt W _ h0
 exact⟨r,rfl,Reads.of_owns h3,h4,(h4.cell (p:=⟨bx,0,none⟩) hlt).trans h0,(h4.cell (p:=⟨bx,1,none⟩) hlt).trans h1,(h4.cell (p:=⟨bx,2,none⟩) hlt).trans h2⟩
theorem jover_is (how:Int) (c:Cmd) (hj:jchk how c=0) (v:Value) (ps:List (List (List UInt8))) (w:World) (hw:c.word.length<=9223372036854775807) (hp:RList w v S ps) (hn:ps.length<=5) (hl:ps.flatten.length<=300000) (hsz:∀p∈ps,∀s∈p,s.length<=300000) (hE:KnownE w) :
 Calls Tryz.prog 150 #[.int .i64 how,c.v,v] w fun e w'=>∃r,e=.returned (.tuple #[r,.int .i64 0])/\Reads w' r (joined how c ps).length ((joined how c ps).map S)/\Below w.heap.size w w':=by
 have hcase:=jchk_how hj
 have hch:=jchk_chk hj
 have hjc:=fun W=>jcheck_is how c W hw
 rw[hj] at hjc
 obtain⟨k,word,n⟩:=c
 unfold Cmd.v at hjc ⊢
 simp only at hw hjc ⊢
 have HJC:Hid _:=hjc
 clear hjc
 have HP:Hid (RList w v S ps):=hp
 have HE:Hid (KnownE w):=hE
 clear hp hE hj
 rcases hcase with rfl | rfl | rfl | rfl
 .
  rw[joined1]
  clear hch
  generalize (⟨word.toArray⟩:ByteArray)=sx at *
  go_enter Tryz.func150,Tryz.ntmps150
  go_wp2_with fail
  refine (HJC.out _).mono ?_
  rintro e w0 ⟨rfl,hb0⟩
  have HB0:Hid (Below w.heap.size w w0):=box_of.trans (hb0.mono (by simp))
  have HR:Hid (RList w0 v S ps):=HP.out.below HB0.out
  clear hb0 HJC
  go_wp2_with fail
  refine (behind_is v ps _ HR.out (by omega) (by omega)).mono ?_
  rintro e w1 ⟨r,rfl,h1,h2⟩
  have HO:Hid _:=Reads.of_owns h1
  have HB:Hid (Below w.heap.size w w1):=HB0.out.trans (h2.mono HB0.out.size)
  clear h1 h2 HR
  go_wp2_with fail
  go_ret2
  exact⟨r,rfl,HO.out,HB.out⟩
 .
  rw[joined2]
  clear hch
  generalize (⟨word.toArray⟩:ByteArray)=sx at *
  go_enter Tryz.func150,Tryz.ntmps150
  go_wp2_with fail
  refine (HJC.out _).mono ?_
  rintro e w0 ⟨rfl,hb0⟩
  have HB0:Hid (Below w.heap.size w w0):=box_of.trans (hb0.mono (by simp))
  have HR:Hid (RList w0 v S ps):=HP.out.below HB0.out
  clear hb0 HJC
  go_wp2_with fail
  refine (merge_is v ps _ HR.out (by omega) (by omega)).mono ?_
  rintro e w1 ⟨r,rfl,h1,h2⟩
  have HO:Hid _:=h1
  have HB:Hid (Below w.heap.size w w1):=HB0.out.trans (h2.mono HB0.out.size)
  clear h1 h2 HR
  go_wp2_with fail
  go_ret2
  exact⟨r,rfl,HO.out,HB.out⟩
 .
  rw[joined3]
  clear hch
  have hsum:=sumOf_le ps
  have hsz':∀p∈ps,∀s∈p,s.length<=1000000:=fun p hp s hs=>Nat.le_trans (hsz p hp s hs) (by omega)
  have hS:=fun (W:World) (h:RList W v S ps) (hE:KnownE W)=>sum_is v ps W h (by omega) hsz' hE
  obtain⟨z,hz⟩:∃z,z=sumOf ps:=⟨_,rfl⟩
  rw[<- hz] at hS hsum ⊢
  have hI:=fun (W:World) (h:Known W)=>itoa_is z W (by omega) (by omega) h
  obtain⟨t,ht⟩:∃t,t=Lib.itoa (z:Int):=⟨_,rfl⟩
  rw[<- ht] at hI ⊢
  have HS:Hid _:=hS
  have HI:Hid _:=hI
  clear hS hI hz ht hsz hsz'
  generalize (⟨word.toArray⟩:ByteArray)=sx at *
  go_enter Tryz.func150,Tryz.ntmps150
  go_wp2_with fail
  refine (HJC.out _).mono ?_
  rintro e w0 ⟨rfl,hb0⟩
  have HB0:Hid (Below w.heap.size w w0):=box_of.trans (hb0.mono (by simp))
  have HR:Hid (RList w0 v S ps):=HP.out.below HB0.out
  have HEb:Hid (KnownE w0):=HE.out.below HB0.out
  clear hb0 HJC
  go_wp2_with fail
  refine (HS.out _ HR.out HEb.out).mono ?_
  rintro e w1 ⟨rfl,h2⟩
  have HK1:Hid (Known w1):=(KnownE.below HEb.out h2).1
  have HB:Hid (Below w.heap.size w w1):=HB0.out.trans (h2.mono HB0.out.size)
  clear h2 HR HEb
  go_wp2_with fail
  refine (HI.out w1 HK1.out).mono ?_
  rintro e w2 ⟨rfl,h3⟩
  have HB2:Hid (Below w.heap.size w w2):=HB.out.trans (h3.mono HB.out.size)
  clear h3
  go_wp2_with fail
  go_ret2
  exact⟨_,rfl,by simpa[S] using reads_new w2 #[S t] 9 (0,0) 1 rfl (by omega),HB2.out.trans (((Below.refl _ w2).alloc (Nat.le_refl _) _).mono HB2.out.size)⟩
 .
  rw[joined4]
  have hc0:=hch rfl
  have hcov:=fun (v:Value) (W:World) hr hK=>cover_is ⟨k,word,n⟩ hc0 v ps.flatten W hw hr hl (fun s hs=>by obtain⟨p,hp,hsp⟩:=List.mem_flatten.1 hs;exact hsz p hp s hsp) hK
  unfold Cmd.v at hcov
  simp only at hcov
  have HCV:Hid _:=hcov
  clear hch hcov hc0 hsz
  generalize made ⟨k,word,n⟩ ps.flatten=M at *
  generalize (⟨word.toArray⟩:ByteArray)=sx at *
  go_enter Tryz.func150,Tryz.ntmps150
  go_wp2_with fail
  refine (HJC.out _).mono ?_
  rintro e w0 ⟨rfl,hb0⟩
  obtain⟨x0,x1,x2⟩:=jbox_cells hb0
  have HB00:Hid (Below w.heap.size w w0):=box_of.trans (hb0.mono (by simp))
  have HB0:Hid (Below w.heap.size w w0.drew):=HB00.out.drew
  have HR:Hid (RList w0.drew v S ps):=HP.out.below HB0.out
  have HK0:Hid (KnownE w0.drew):=HE.out.below HB0.out
  clear hb0 HJC
  go_upto_region 11 with fail
  go_region_with (first
   | (go_at_call 198;refine (behind_in v ps HR.out (by omega) (by omega) HB0.out x0 x1 x2).mono ?_;rintro e w2 ⟨r2,rfl,O2,B2,y0,y1,y2⟩)
   | (go_at_call 149;refine (HCV.out r2 w2 O2.out (HK0.out.below B2.out).1).mono ?_;rintro e w3 ⟨r3,rfl,R3,B3⟩))
  all_goals
   have HR3:Hid _:=R3
   have HB3:Hid (Below w.heap.size w w3):=HB0.out.trans ((B2.out.mono HB0.out.size).trans (B3.mono (Nat.le_trans HB0.out.size B2.out.size)))
   clear R3 B3
   go_wp2_with fail
   go_ret2
   exact⟨r3,rfl,HR3.out,HB3.out⟩
end Go.Proofs.YtllgglolcgdehaaGreatDoor
