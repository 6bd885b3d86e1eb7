/- Facts of no function that walks over pipes use; bytes.Clone, slices.Equal at bytes, and more. -/
import Derived.Test.YtllgglolcgdehaaGreatDoorQAb
import Derived.Deep.LoopGhost
import Derived.Shelf.Strings.SlTrimAscii
import Derived.Test.YtllgglolcgdehaaGreatDoorQe00
import Derived.Test.YtllgglolcgdehaaGreatDoorQb03
import Derived.Test.YtllgglolcgdehaaGreatDoorQf00
set_option maxRecDepth 100000
set_option maxHeartbeats 16000000
namespace Go.Proofs.YtllgglolcgdehaaGreatDoor
open Go.RowKit Go.Gs
set_option linter.unusedVariables false
theorem cw2 {α:Type} {a b:List α} {k:Nat} {x y:α} (ha:a[k]? = some x) (hb:b[k]? = some y) (h:x≠y):a≠b:=by intro e;rw[e,hb] at ha;injection ha with ha;exact h ha.symm
theorem cl7 {α:Type} {a b:List α} {k:Nat} {x:α} (h:a.take k=b.take k) (ha:a[k]? = some x) (hb:b[k]? = some x):a.take (k+1)=b.take (k+1):=by rw[List.take_add_one,List.take_add_one,h,ha,hb]
theorem cl8 (au av:Option Addr) (cu cv:Nat) (a b:List UInt8) (w:World) (ha:Reads w (.slice au a.length cu) a.length (a.map U)) (hb:Reads w (.slice av b.length cv) b.length (b.map U)) :
 Calls Tryz.prog 30 #[.slice au a.length cu,.slice av b.length cv] w fun e w'=>e=.returned (.bool (decide (a=b)))/\Bq w w':=by
 have m2:=(E8 ha).1;have m4:=(E8 hb).1;have HA:=qH ha;have HB:=qH hb;obtain⟨NA,hNA⟩:=qE a.length;obtain⟨NB,hNB⟩:=qE b.length;have HNA:=qH hNA;have HNB:=qH hNB;have hA1:NA<=9223372036854775807:=by omega
 have hB1:NB<=9223372036854775807:=by omega
 rw[<- hNA,<- hNB];rw[<- hNA] at HA;rw[<- hNB] at HB;clear ha hb m2 m4 hNA hNB;by_cases hne:NA=NB
 .
  subst hne;go_enter Tryz.func30,Tryz.ntmps30;go_wp2_with fail;go_loopw [13] (fun i wr=>∃k:Nat,k<=NA/\i=.int .i64 k/\Hid (Bq w wr)/\Hid (a.take k=b.take k)) (fun i _=>NA-(intOf i).toNat)
  case atStart=>exact⟨0,Nat.zero_le _,rfl,Below.refl _ _,(show _=_ by simp)⟩
  case round=>
   obtain⟨k,hk,rfl,Aa,Ae⟩:=hrel;by_cases hlt:k<NA
   .
    obtain⟨x,hx⟩:∃x,a[k]? = some x:=⟨_,gEl (by have:=HNA.out;omega)⟩;obtain⟨y,hy⟩:∃y,b[k]? = some y:=⟨_,gEl (by have:=HNB.out;omega)⟩;have HX:=qH hx;have HY:=qH hy;obtain⟨b1,o1,rfl,hc1⟩:=ar4 (Reads.below HA.out Aa.out) hx;obtain⟨b2,o2,rfl,hc2⟩:=ar4 (Reads.below HB.out Aa.out) hy;by_cases hxy:x=y
    . subst hxy;have HE:Hid (a.take (k+1)=b.take (k+1)):=cl7 Ae.out hx hy;generalize (x.toNat:Int)=xi at *;clear hx hy Ae;go_wp2_with fail;go_region
      all_goals go_wp2_with fail
      all_goals go_roundw
      case rel=>exact⟨k+1,by omega,by go_num,Aa.out.drew,HE⟩
      case measure=>simp[intOf];omega
    . have HE:Hid (a≠b):=cw2 hx hy hxy;have hxi:¬(x.toNat:Int)=(y.toNat:Int):=fun h=>hxy (UInt8.toNat_inj.1 (by omega));generalize (x.toNat:Int)=xi at *;generalize (y.toNat:Int)=yi at *;clear hx hy Ae hxy;go_wp2_with fail;go_region
      all_goals go_wp2_with fail
      all_goals go_ret
      all_goals exact⟨by rw[decide_eq_false HE.out];rfl,Aa.out.drew⟩
   .
    have HE:Hid (a=b):=(show _=_ by
     have h:=Ae.out
     rw[List.take_of_length_le (by have:=HNA.out;omega),List.take_of_length_le (by have:=HNB.out;omega)] at h
     exact h)
    clear Ae;go_wp2_with fail;go_ret;exact⟨by rw[decide_eq_true HE.out];rfl,Aa.out⟩
 . have HE:Hid (a≠b):=(show a≠b from fun e=>hne (by rw[HNA.out,HNB.out,e]));have hq:¬(NA:Int)=NB:=by omega
   go_enter Tryz.func30,Tryz.ntmps30;go_wp2_with fail;go_ret;exact⟨by rw[decide_eq_false HE.out];rfl,Below.refl _ _⟩
end Go.Proofs.YtllgglolcgdehaaGreatDoor
namespace Go.Gs
open Go.RowKit
set_option linter.unusedVariables false
theorem ca0 {M:SMach} (h:Shape M) (ho:overS M=true) (a:Int):(stepS M a).1=M/\(stepS M a).2≠0:=by
 unfold stepS;split
 . exact⟨rfl,by simp⟩
 .
  unfold I4
  cases hn:M.ns[a.toNat]? with
  | none=>exact⟨rfl,by simp⟩
  | some n=>
   cases hp:M.ps[a.toNat]? with
   | none=>exact⟨rfl,by simp⟩
   | some p=>
    have:p.ov=true:=List.all_eq_true.1 ho p (mGt hp)
    simp only
    unfold ay6
    rw[if_pos this]
    exact⟨rfl,by simp⟩
theorem aW9 {M:SMach} (h:Shape M) (ho:overS M=true):∀l:List Int,(l9 M l).1=M /\ ∀e∈(l9 M l).2,e≠0
 | []=>⟨rfl,fun e he=>by simp[l9] at he⟩
 | i::r=>by
  obtain⟨h1,h2⟩:=ca0 h ho i
  obtain⟨h3,h4⟩:=aW9 h ho r
  unfold l9
  rw[h1]
  refine⟨h3,fun e he=>?_⟩
  rcases List.mem_cons.1 he with rfl | he
  . exact h2
  . exact h4 e he
end Go.Gs
namespace Go.Proofs.YtllgglolcgdehaaGreatDoor
open Go.RowKit Go.Gs
set_option linter.unusedVariables false
theorem bM8 (a b:List UInt8):((⟨a.toArray⟩:ByteArray).toList == (⟨b.toArray⟩:ByteArray).toList)=decide (a=b):=by
 by_cases h:a=b
 . subst h;simp
 . simp[h]
theorem bJ6 (ns:List SNode) (fs:List SFile) (room:Int) (pk:List Int) (an1 ao aq:Option Addr) (cn1 cap cq bg bf:Nat) (w:World) (hn:A2 w (.slice an1 ns.length cn1) ns) (hfs:j9 w (.slice ao fs.length cap) fs) (hcg:w.cell? ⟨bg,0,none⟩=some (.slice an1 ns.length cn1)) (hcf:w.cell? ⟨bf,0,none⟩=some (.slice ao fs.length cap)) (hfn:∀n∈ns,M4 n) (hff:∀f∈fs,M3 f) (hq:Reads w (.slice aq pk.length cq) pk.length (Zs pk)) (hE:t8 w) (hg:gchk ns=0) (hfc:fchk fs=0) (hbd:T0 ns fs) (hr1:1<=room) (hr2:room<=1000) :
 Calls Tryz.prog 38 #[.int .i64 room,.slice aq pk.length cq,.pointer (some ⟨bg,0,none⟩),.pointer (some ⟨bf,0,none⟩)] w fun e w'=>∃v r,e=.returned (.tuple #[v,.bool true])/\K8 w' v r/\Go.Gs.Reach ns fs room r/\overS r=true/\r.sunk=sunk ns fs/\Bq w w':=by
 have hnw:newS ns fs room=(o7 ns fs room,0):=by unfold newS;rw[if_neg (by simp[hg]),if_neg (by simp[hfc]),if_neg (by omega)]
 have hre:Go.Gs.Reach ns fs room (o7 ns fs room):=Go.Gs.Reach.fresh (D7 hg) (by omega) (by omega);obtain⟨K,hK⟩:=qE (min pk.length 500:Nat);have hle:=R7 hq
 have HNW:Hid (∀V,Bq w V->Calls Tryz.prog 15 #[.agg #[.slice an1 ns.length cn1],.slice ao fs.length cap,.int .i64 room] V fun e w'=>∃v,e=.returned (.tuple #[v,.int .i64 0])/\K8 w' v (o7 ns fs room)/\Bq V w'):=(show ∀V,_ from fun V hb=>by
  have:=aF4 an1 ao cn1 cap ns fs room V (hn.below hb) (hfs.below hb) hfn hff
  rw[hnw] at this
  exact this)
 obtain⟨M5,hM5⟩:=qE ((l9 (o7 ns fs room) (pk.take K)).1)
 have Ak:Hid (∀(V:World) (an af ax ap aS:Option Addr) (cn cf cx cp cs:Nat),Bq w V->RMach V an af ax ap aS cn cf cx cp cs (o7 ns fs room)->Calls Tryz.prog 24 #[machV an af ax ap aS (o7 ns fs room) cn cf cx cp cs,.slice aq K cq] V fun e w'=>∃v s,e=.returned (.tuple #[v,s,.int .i64 0])/\J4 V.heap.size w' v M5/\Bq V w'):=(show ∀(V:World) (an af ax ap aS:Option Addr) (cn cf cx cp cs:Nat),_ from fun V an af ax ap aS cn cf cx cp cs hb hM=>by
  obtain⟨q1,q2⟩:=aj7 (hq.below hb) (k:=K) (by omega)
  have h0:=aO9 an af ax ap aS aq cn cf cx cp cs cq (o7 ns fs room) (pk.take K) V hM (by rw[q2];rw[q2] at q1;exact q1) (U0 hg hfc hfn hff hre) (fun V' hV'=>hE.below (hb.trans (hV'.mono hb.size))) (Go.Gs.Reach ns fs room) (fun _=>ac8 hg hfc hbd) (fun _=>hre)
  have hR:runR (o7 ns fs room) (pk.take K)=(M5,(l9 (o7 ns fs room) (pk.take K)).2,0):=by unfold runR;rw[if_neg (by simp[hre.chk hg hfc hbd]),if_neg (by rw[q2];omega),hM5]
  rw[hR,q2] at h0
  refine h0.mono ?_
  rintro e w' ⟨v,s,e1,e2,e3,e4⟩
  exact⟨v,s,e1,e2,e4⟩)
 have hr5:Go.Gs.Reach ns fs room M5:=by rw[hM5];exact hre.picks (D7 hg) _ _
 obtain⟨kf,rf,hk,hov,hrf,hsk⟩:=ax9 hg hfc hbd hr1 hr5
 have Cb:Hid (∀(V:World) (an af ax ap aS:Option Addr) (cn cf cx cp cs:Nat),Bq w V->RMach V an af ax ap aS cn cf cx cp cs M5->Calls Tryz.prog 25 #[machV an af ax ap aS M5 cn cf cx cp cs] V fun e w'=>∃v,e=.returned (.tuple #[v,.int .i64 0])/\J4 V.heap.size w' v rf/\Bq V w'):=(show ∀(V:World) (an af ax ap aS:Option Addr) (cn cf cx cp cs:Nat),_ from fun V an af ax ap aS cn cf cx cp cs hb hM=>by
  have:=ap9 an af ax ap aS cn cf cx cp cs M5 V hM (U0 hg hfc hfn hff hr5) (fun V' hV'=>hE.below (hb.trans (hV'.mono hb.size))) (Go.Gs.Reach ns fs room) (fun _=>by rw[(J6 hr5).1,(J6 hr5).2];exact ac8 hg hfc hbd) (fun _=>hr5) kf (rf,0) (fun _=>hk)
  rw[show finR M5 (rf,0)=(rf,0) from by unfold finR;rw[if_neg (by simp[hr5.chk hg hfc hbd])]] at this
  exact this)
 have HFS:Hid (Go.Gs.Reach ns fs room rf/\overS rf=true/\rf.sunk=sunk ns fs):=⟨hrf,hov,hsk⟩;obtain⟨M0,hM0⟩:=qE (o7 ns fs room);rw[<- hM0] at HNW Ak;have Jc:min (pk.length:Int) 500=(K:Int):=by omega
 have hK1:K<=pk.length:=by omega
 have hK2:K<=cq:=by omega
 have hltg:=bLt w _ hcg;have hltf:=bLt w _ hcf;generalize ns.length=NL at *;generalize fs.length=NFS at *;generalize pk.length=NPK at *;have c1:=fun o=>((b9 (w:=w) (o:=o)).cell hltg).trans hcg;have c2:=fun o=>((b9 (w:=w) (o:=o)).cell hltf).trans hcf;clear hn hfs hcg hcf hfn hff hq hE hg hfc hbd hr1 hr2 hnw hre hM5 hr5 hk hov hrf hsk hM0 hK hltg hltf;go_enter Tryz.func38,Tryz.ntmps38;go_wp2_with fail;refine Calls.mono (HNW.out _ b9) ?_;rintro e w1 ⟨v,rfl,hA1,hb1⟩;have hB1:Bq w w1:=Below.trans (b9 (w:=w)) (hb1.mono (by simp));obtain⟨R,hR⟩:=qE w.heap.size;have hR1:w1.heap[R]? = some (.cells #[.slice none 0 0,.slice none 0 0,.slice none 0 0,.slice none 0 0,.slice none 0 0] 30 (0,0)):=by rw[hR,hb1.block _ (by simp)];exact heap_alloc_new _ _
 rw[<- hR];obtain⟨an,af',ax,ap,aS,cn,cf',cx,cp,cs,rfl,hM2⟩:=hA1;obtain⟨W2,hW2⟩:=qE (w1.alloc (.cells #[.slice an M0.ns.length cn,.slice af' M0.fs.length cf',.slice ax M0.pipes.length cx,.slice ap M0.ps.length cp,.slice aS M0.sunk.length cs] 30));obtain⟨B,hB⟩:=qE w1.heap.size;have hbW:Bq w1 W2:=by rw[hW2];exact b9
 have HWR:Hid (w.heap.size<=R/\R<B):=(show _/\_ from ⟨by omega,by rw[hB];exact (aSm hR1).1⟩);have HBW:Hid (Bq w W2):=hB1.trans (hbW.mono hB1.size);have HBX:Hid (W2.heap[B]? = some (.cells #[.slice an M0.ns.length cn,.slice af' M0.fs.length cf',.slice ax M0.pipes.length cx,.slice ap M0.ps.length cp,.slice aS M0.sunk.length cs] 30 (0,0))/\W2.heap[R]? = some (.cells #[.slice none 0 0,.slice none 0 0,.slice none 0 0,.slice none 0 0,.slice none 0 0] 30 (0,0))):=(show _/\_ from ⟨by rw[hW2,hB];exact heap_alloc_new _ _,(hbW.block R (aSm hR1).1).trans hR1⟩)
 have HRC:Hid (∀V,Bq W2 V->Calls Tryz.prog 24 #[.agg #[.slice an M0.ns.length cn,.slice af' M0.fs.length cf',.slice ax M0.pipes.length cx,.slice ap M0.ps.length cp,.slice aS M0.sunk.length cs],.slice aq K cq] V fun e w'=>∃bn bf bx bp bS dn df dx dp ds s,e=.returned (.tuple #[.agg #[.slice bn M5.ns.length dn,.slice bf M5.fs.length df,.slice bx M5.pipes.length dx,.slice bp M5.ps.length dp,.slice bS M5.sunk.length ds],s,.int .i64 0])/\ac0 W2.heap.size w' bn bf bx bp bS dn df dx dp ds M5/\Bq W2 w'):=(show ∀V,_ from fun V hV=>by
  refine Calls.mono (Ak.out V an af' ax ap aS cn cf' cx cp cs (HBW.out.trans (hV.mono HBW.out.size)) ((hM2.below hbW).below hV)) ?_
  rintro e w' ⟨v,s,rfl,⟨bn,bf,bx,bp,bS,dn,df,dx,dp,ds,rfl,hN⟩,hb'⟩
  exact⟨bn,bf,bx,bp,bS,dn,df,dx,dp,ds,s,rfl,fun X w'' h1 h2 h3=>hN X w'' (fun x hx=>⟨Nat.lt_of_lt_of_le (h1 x hx).1 hV.size,(h1 x hx).2⟩) h2 h3,hV.trans (hb'.mono hV.size)⟩)
 unfold machV;generalize M0.ns.length=N0 at *;generalize M0.fs.length=N1 at *;generalize M0.pipes.length=N2 at *;generalize M0.ps.length=N3 at *;generalize M0.sunk.length=N4 at *;obtain⟨x0,x1,x2,x3,x4,xf⟩:=j6 HBX.out.1;have xf0:=xf 0;have xf1:=xf 1;have xf2:=xf 2;have xf3:=xf 3;have xf4:=xf 4;clear hM2 hb1 hB1 hbW HNW Ak hR1 hR c1 c2 xf;go_upto_region 4 with fail;rw[<- hW2,<- hB];clear hW2 hB
 go_region_with (first
  | (go_at_call 24;refine Calls.mono (HRC.out _ (by first | exact (Below.refl _ _).drew | exact Below.refl _ _)) ?_;rintro e w3 ⟨bn,bf,bx,bp,bS,dn,df,dx,dp,ds,s3,rfl,hN3,hb3⟩;have Ot:=(hb3.block B (aSm HBX.out.1).1).trans HBX.out.1;obtain⟨y0,y1,y2,y3,y4,yf⟩:=j6 Ot;have yf0:=yf 0;have yf1:=yf 1;have yf2:=yf 2;have yf3:=yf 3;have yf4:=yf 4;have HN3:Hid _:=hN3;have HB3:Hid _:=hb3;have HW3:Hid _:=Ot;clear hN3 hb3 Ot yf x0 x1 x2 x3 x4 xf0 xf1 xf2 xf3 xf4))
 all_goals
  obtain⟨W4,hW4⟩:=qE (((((w3.setCell ⟨B,0,none⟩ (.slice bn M5.ns.length dn)).setCell ⟨B,1,none⟩ (.slice bf M5.fs.length df)).setCell ⟨B,2,none⟩ (.slice bx M5.pipes.length dx)).setCell ⟨B,3,none⟩ (.slice bp M5.ps.length dp)).setCell ⟨B,4,none⟩ (.slice bS M5.sunk.length ds))
  have hBL:B<W2.heap.size:=(aSm HBX.out.1).1
  have h4:=(L8 (b:=B) HN3.out hBL HW3.out rfl rfl rfl rfl rfl).2.self
  have Ge:=S0 (v0:=.slice bn M5.ns.length dn) (v1:=.slice bf M5.fs.length df) (v2:=.slice bx M5.pipes.length dx) (v3:=.slice bp M5.ps.length dp) (v4:=.slice bS M5.sunk.length ds) HW3.out
  have hR4:W4.heap[R]? = some (.cells #[.slice none 0 0,.slice none 0 0,.slice none 0 0,.slice none 0 0,.slice none 0 0] 30 (0,0)):=by
   rw[hW4,aq1 (by have:=HWR.out;omega)]
   exact (HB3.out.block R (aSm HBX.out.2).1).trans HBX.out.2
  have hB4:Bq w W4:=by
   rw[hW4]
   exact D3 (HBW.out.trans (HB3.out.mono HBW.out.size)) (by have:=HWR.out;omega)
  rw[<- hW4] at h4 Ge
  have HFC:Hid _:=Cb.out W4 bn bf bx bp bS dn df dx dp ds hB4 h4
  have Do:Hid _:=(show _/\_ from ⟨Ge,hR4⟩)
  have HB4:=qH hB4
  unfold machV at HFC
  generalize M5.ns.length=P0 at *
  generalize M5.fs.length=P1 at *
  generalize M5.pipes.length=P2 at *
  generalize M5.ps.length=P3 at *
  generalize M5.sunk.length=P4 at *
  clear h4 hR4 hB4 Cb HN3 HB3 HW3 HRC hBL
  go_upto_region 7 with fail
  rw[<- hW4]
  clear hW4 y0 y1 y2 y3 y4 yf0 yf1 yf2 yf3 yf4
  obtain⟨x0,x1,x2,x3,x4,_⟩:=j6 Ge
  clear Ge
  go_wp2_with fail
  refine Calls.mono HFC.out ?_
  rintro e w5 ⟨v5,rfl,hA5,hb5⟩
  have Cd:=(hb5.block B (aSm Do.out.1).1).trans Do.out.1
  have hR5:=(hb5.block R (aSm Do.out.2).1).trans Do.out.2
  have hB5:Bq w w5:=HB4.out.trans (hb5.mono HB4.out.size)
  obtain⟨en,ef,ex,ep,eS,gn,gf,gx,gp,gs,rfl,hN5⟩:=hA5
  obtain⟨y0,y1,y2,y3,y4,yf⟩:=j6 Cd
  have yf0:=yf 0
  have yf1:=yf 1
  have yf2:=yf 2
  have yf3:=yf 3
  have yf4:=yf 4
  unfold machV
  obtain⟨W6,hW6⟩:=qE (((((w5.setCell ⟨B,0,none⟩ (.slice en rf.ns.length gn)).setCell ⟨B,1,none⟩ (.slice ef rf.fs.length gf)).setCell ⟨B,2,none⟩ (.slice ex rf.pipes.length gx)).setCell ⟨B,3,none⟩ (.slice ep rf.ps.length gp)).setCell ⟨B,4,none⟩ (.slice eS rf.sunk.length gs))
  have hN6:=(L8 (b:=B) hN5 (aSm Do.out.1).1 Cd rfl rfl rfl rfl rfl).2
  have Dw:=S0 (v0:=.slice en rf.ns.length gn) (v1:=.slice ef rf.fs.length gf) (v2:=.slice ex rf.pipes.length gx) (v3:=.slice ep rf.ps.length gp) (v4:=.slice eS rf.sunk.length gs) Cd
  have hR6:W6.heap[R]? = some (.cells #[.slice none 0 0,.slice none 0 0,.slice none 0 0,.slice none 0 0,.slice none 0 0] 30 (0,0)):=by
   rw[hW6,aq1 (by have:=HWR.out;omega)]
   exact hR5
  have hB6:Bq w W6:=by
   rw[hW6]
   exact D3 hB5 (by have:=HWR.out;omega)
  rw[<- hW6] at hN6 Dw
  obtain⟨W8,hW8⟩:=qE (((((W6.setCell ⟨R,0,none⟩ (.slice en rf.ns.length gn)).setCell ⟨R,1,none⟩ (.slice ef rf.fs.length gf)).setCell ⟨R,2,none⟩ (.slice ex rf.pipes.length gx)).setCell ⟨R,3,none⟩ (.slice ep rf.ps.length gp)).setCell ⟨R,4,none⟩ (.slice eS rf.sunk.length gs))
  have hN8:=(L8 (b:=R) hN6 HWR.out.2 hR6 rfl rfl rfl rfl rfl).2.self
  have Ah:=S0 (v0:=.slice en rf.ns.length gn) (v1:=.slice ef rf.fs.length gf) (v2:=.slice ex rf.pipes.length gx) (v3:=.slice ep rf.ps.length gp) (v4:=.slice eS rf.sunk.length gs) hR6
  rw[<- hW8] at hN8 Ah
  have hB8:Bq w W8:=by rw[hW8];exact D3 hB6 HWR.out.1
  have Am:Hid (K8 W8 (.agg #[.slice en rf.ns.length gn,.slice ef rf.fs.length gf,.slice ex rf.pipes.length gx,.slice ep rf.ps.length gp,.slice eS rf.sunk.length gs]) rf/\Bq w W8):=(show _/\_ from ⟨⟨en,ef,ex,ep,eS,gn,gf,gx,gp,gs,rfl,hN8⟩,hB8⟩)
  generalize rf.ns.length=P0 at *
  generalize rf.fs.length=P1 at *
  generalize rf.pipes.length=P2 at *
  generalize rf.ps.length=P3 at *
  generalize rf.sunk.length=P4 at *
  clear hN5 hN6 hN8 hB5 hB6 hB8 hb5 Cd hR5 Do HB4 HFC HBW HBX yf x0 x1 x2 x3 x4
  go_upto_region 8 with fail
  rw[<- hW6]
  clear hW6 y0 y1 y2 y3 y4 yf0 yf1 yf2 yf3 yf4
  obtain⟨u0,u1,u2,u3,u4,_⟩:=j6 Dw
  obtain⟨v0,v1,v2,v3,v4,vf⟩:=j6 hR6
  have vf0:=vf 0
  have vf1:=vf 1
  have vf2:=vf 2
  have vf3:=vf 3
  have vf4:=vf 4
  obtain⟨z0,z1,z2,z3,z4,_⟩:=j6 Ah
  have Z:Hid (_/\_/\_/\_/\_):=⟨z0,z1,z2,z3,z4⟩
  clear z0 z1 z2 z3 z4 Dw hR6 Ah vf
  go_wp2_with fail
  (try simp only[Exit.inBlock,Exit.then])
  rw[<- hW8]
  clear hW8 u0 u1 u2 u3 u4 v0 v1 v2 v3 v4 vf0 vf1 vf2 vf3 vf4
  obtain⟨z0,z1,z2,z3,z4⟩:=Z.out
  refine bodyPost_ret (v:=.tuple #[.agg #[.slice en P0 gn,.slice ef P1 gf,.slice ex P2 gx,.slice ep P3 gp,.slice eS P4 gs],.bool true]) ?_ rfl ⟨_,rf,rfl,Am.out.1,HFS.out.1,HFS.out.2.1,HFS.out.2.2,Am.out.2⟩
  rw[results_cell_tmp rfl]
  go_simp
theorem ca1 (ao:Option Addr) (cap n:Nat) (zs:List Int) (w:World) (hr:Reads w (.slice ao n cap) n (Zs zs)) (hno:∀z∈zs,z≠0) :
 Calls Tryz.prog 106 #[.slice ao n cap,.int .i64 0] w fun e w'=>e=.returned (.int .i64 (-1))/\w'=w:=by
 have hle:=R7 hr;have HL:Hid ((Zs zs).length=n):=(show _=_ from by obtain⟨h,_⟩:=hr;exact h);have HR:Hid _:=hr;have HN:=qH hno;clear hno hr;go_enter Tryz.func106,Tryz.ntmps106;go_wp2;go_loopw [8] (fun i wr=>∃k:Nat,k<=n/\i=.int .i64 k/\wr=w) (fun i _=>n-(intOf i).toNat)
 case atStart=>exact⟨0,Nat.zero_le _,rfl,rfl⟩
 case round=>
  obtain⟨k,hk,rfl,rfl⟩:=hrel;by_cases hlt:k<n
  .
   obtain⟨z,hz⟩:∃z,zs[k]? = some z:=⟨_,gEl (by have:=HL.out;unfold Zs at this;simp at this;omega)⟩;obtain⟨b,off,rfl,Ac⟩:=bf2 HR.out (j:=k) (u:=.int .i64 z) (by unfold Zs;rw[List.getElem?_map,hz];rfl);have hne:((0:Int) == z)=false:=by rw[beq_eq_false_iff_ne];exact fun e=>HN.out z (mGt hz) e.symm
   clear hz;go_wp2;go_roundw
   case rel=>exact⟨k+1,by omega,by go_num,(by first | exact rfl | trivial)⟩
   case measure=>simp[intOf];omega
  . go_wp2;go_ret;exact⟨rfl,rfl⟩
theorem bn2 (ao:Option Addr) (cap n:Nat) (zs:List Int) (w:World) (hr:Reads w (.slice ao n cap) n (Zs zs)) (hno:∀z∈zs,z≠0) :
 Calls Tryz.prog 41 #[.slice ao n cap,.int .i64 0] w fun e w'=>e=.returned (.bool false)/\w'=w:=by have hI:=ca1 ao cap n zs w hr hno;clear hr hno;go_enter Tryz.func41,Tryz.ntmps41;go_wp2_with fail;refine hI.mono ?_;rintro e w' ⟨rfl,rfl⟩;go_wp2_with fail;go_ret;exact⟨rfl,rfl⟩
def aB7 (x y:SNode):Bool:=decide (x.kind=y.kind) && decide (x.file=y.file) && (decide (x.c.kind=y.c.kind) && decide (x.c.word=y.c.word) && decide (x.c.n=y.c.n)) && decide (x.how=y.how) && decide (x.wide=y.wide) && decide (x.ins=y.ins)
def ab8:List SNode->List SNode->Bool
 | [],[]=>true
 | x::r,y::s=>aB7 x y && ab8 r s
 | _,_=>false
theorem aN4:∀{a b:List SNode},a.length≠b.length->ab8 a b=false
 | [],[],h=>absurd rfl h
 | [],_::_,_=>rfl
 | _::_,[],_=>rfl
 | x::r,y::s,h=>by
  show (aB7 x y && ab8 r s)=false
  rw[aN4 (a:=r) (b:=s) (by simpa using h)]
  simp
theorem aG2:∀{a b:List SNode} {k:Nat} {x y:SNode},a[k]? = some x->b[k]? = some y->ab8 (a.drop k) (b.drop k)=(aB7 x y && ab8 (a.drop (k+1)) (b.drop (k+1)))
 | [],_,k,x,y,h,_=>by simp at h
 | _::_,[],k,x,y,_,h=>by simp at h
 | u::r,v::s,0,x,y,h1,h2=>by
  simp at h1 h2
  subst h1 h2
  rfl
 | u::r,v::s,k+1,x,y,h1,h2=>by
  simpa using aG2 (a:=r) (b:=s) (k:=k) (x:=x) (y:=y) (by simpa using h1) (by simpa using h2)
theorem bn3 {a b:List (Int × Int)} {k:Nat} {x:Int × Int} (h:a.take k=b.take k) (hx:a[k]? = some x) (hy:b[k]? = some x):a.take (k+1)=b.take (k+1):=by rw[List.take_add_one,List.take_add_one,h,hx,hy]
theorem cs7 {a b:List (Int × Int)} {k:Nat} {x y:Int × Int} (hx:a[k]? = some x) (hy:b[k]? = some y) (h:x≠y):a≠b:=by intro e;rw[e,hy] at hx;injection hx with hx;exact h hx.symm
theorem ca2 (au av:Option Addr) (cu cv:Nat) (a b:List (Int × Int)) (w:World) (ha:E2 w (.slice au a.length cu) a) (hb:E2 w (.slice av b.length cv) b) :
 Calls Tryz.prog 98 #[.slice au a.length cu,.slice av b.length cv] w fun e w'=>e=.returned (.bool (decide (a=b)))/\Bq w w':=by
 have m2:=L2 ha;have m4:=L2 hb;have HA:=qH ha;have HB:=qH hb;obtain⟨NA,hNA⟩:=qE a.length;obtain⟨NB,hNB⟩:=qE b.length;have HNA:=qH hNA;have HNB:=qH hNB;have hA1:NA<=9223372036854775807:=by omega
 have hB1:NB<=9223372036854775807:=by omega
 rw[<- hNA,<- hNB];rw[<- hNA] at HA;rw[<- hNB] at HB;clear ha hb m2 m4 hNA hNB;by_cases hne:NA=NB
 .
  subst hne;go_enter Tryz.func98,Tryz.ntmps98;go_wp2_with fail;go_loopw [13] (fun i wr=>∃k:Nat,k<=NA/\i=.int .i64 k/\Hid (Bq w wr)/\Hid (a.take k=b.take k)) (fun i _=>NA-(intOf i).toNat)
  case atStart=>exact⟨0,Nat.zero_le _,rfl,Below.refl _ _,(show _=_ by simp)⟩
  case round=>
   obtain⟨k,hk,rfl,Aa,Ae⟩:=hrel;by_cases hlt:k<NA
   .
    obtain⟨x,hx⟩:∃x,a[k]? = some x:=⟨_,gEl (by have:=HNA.out;omega)⟩;obtain⟨y,hy⟩:∃y,b[k]? = some y:=⟨_,gEl (by have:=HNB.out;omega)⟩;obtain⟨b1,o1,rfl,c1,c2⟩:=(HA.out.below Aa.out).at hx;obtain⟨b2,o2,rfl,d1,d2⟩:=(HB.out.below Aa.out).at hy;have HE:Hid (x=y->a.take (k+1)=b.take (k+1)):=(show _->_ from fun e=>bn3 Ae.out hx (by rw[e];exact hy));have HN:Hid (x≠y->a≠b):=(show _->_ from fun e=>cs7 hx hy e);obtain⟨x1,x2⟩:=x;obtain⟨y1,y2⟩:=y;simp only at c1 c2 d1 d2;clear hx hy Ae;by_cases e1:x1=y1
    .
     subst e1;by_cases e2:x2=y2
     . subst e2;have HE2:Hid (a.take (k+1)=b.take (k+1)):=HE.out rfl;clear HE HN;go_wp2_with fail;go_region
       all_goals go_wp2_with fail
       all_goals go_roundw
       case rel=>exact⟨k+1,by omega,by go_num,Aa.out.drew,HE2⟩
       case measure=>simp[intOf];omega
     . have HE2:Hid (a≠b):=HN.out (fun e=>e2 (by injection e));have q2:(x2 == y2)=false:=by simpa using e2
       clear HE HN;go_wp2_with fail;go_region
       all_goals go_wp2_with fail
       all_goals go_ret
       all_goals exact⟨by rw[decide_eq_false HE2.out];rfl,Aa.out.drew⟩
    . have HE2:Hid (a≠b):=HN.out (fun e=>e1 (by injection e));have q1:(x1 == y1)=false:=by simpa using e1
      clear HE HN;go_wp2_with fail;go_region
      all_goals go_wp2_with fail
      all_goals go_ret
      all_goals exact⟨by rw[decide_eq_false HE2.out];rfl,Aa.out.drew⟩
   .
    have HE:Hid (a=b):=(show _=_ by
     have h:=Ae.out
     rw[List.take_of_length_le (by have:=HNA.out;omega),List.take_of_length_le (by have:=HNB.out;omega)] at h
     exact h)
    clear Ae;go_wp2_with fail;go_ret;exact⟨by rw[decide_eq_true HE.out];rfl,Aa.out⟩
 . have HE:Hid (a≠b):=(show a≠b from fun e=>hne (by rw[HNA.out,HNB.out,e]));have hq:¬(NA:Int)=NB:=by omega
   go_enter Tryz.func98,Tryz.ntmps98;go_wp2_with fail;go_ret;exact⟨by rw[decide_eq_false HE.out];rfl,Below.refl _ _⟩
def eqU (k l:Int) (fe:Bool) (ck dk:Int) (we:Bool) (cn dn hw iw wd vd:Int) (pe:Bool):Bool:=decide (k=l) && fe && (decide (ck=dk) && we && decide (cn=dn)) && decide (hw=iw) && decide (wd=vd) && pe
theorem cw3 (x y:SNode):aB7 x y=eqU x.kind y.kind ((⟨x.file.toArray⟩:ByteArray).toList == (⟨y.file.toArray⟩:ByteArray).toList) x.c.kind y.c.kind ((⟨x.c.word.toArray⟩:ByteArray).toList == (⟨y.c.word.toArray⟩:ByteArray).toList) x.c.n y.c.n x.how y.how x.wide y.wide (decide (x.ins=y.ins)):=by unfold aB7 eqU;rw[bM8,bM8]
end Go.Proofs.YtllgglolcgdehaaGreatDoor
namespace Go.Proofs.YtllgglolcgdehaaGreatDoor
open Go.RowKit Go.Gs
set_option linter.unusedVariables false
variable [DecidableEq SFile]
theorem ca3 (x y:SFile) (ab bb:Option Addr) (cb eb:Nat) (w:World) (hx:Reads w (.slice ab x.b.length cb) x.b.length (x.b.map U)) (hy:Reads w (.slice bb y.b.length eb) y.b.length (y.b.map U)) :
 Calls Tryz.prog 100 #[.agg #[.string ⟨x.name.toArray⟩,.slice ab x.b.length cb],.agg #[.string ⟨y.name.toArray⟩,.slice bb y.b.length eb]] w fun e w'=>e=.returned (.bool (decide (x=y)))/\Bq w w':=by
 have HE1:Hid _:=fun (W:World) (hb:Bq w W)=>Y2 ab bb cb eb x.b y.b W (Reads.below hx hb) (Reads.below hy hb);have hse:=aO8 x.name y.name
 have HXY:Hid (x=y ↔ x.name=y.name/\x.b=y.b):=(show x=y ↔ _ from ⟨fun h=>by subst h;exact⟨rfl,rfl⟩,fun ⟨h1,h2⟩=>by
  obtain⟨a1,a2⟩:=x
  obtain⟨b1,b2⟩:=y
  simp only at h1 h2
  subst h1 h2
  rfl⟩)
 obtain⟨d0,hd0⟩:=qE (decide (x.name=y.name));obtain⟨d1,hd1⟩:=qE (decide (x.b=y.b))
 have HD:Hid (decide (x=y)=(d0 && d1)):=(show _=_ by
  rw[hd0,hd1,<- Bool.decide_and]
  exact decide_eq_decide.2 HXY.out)
 rw[<- hd0] at hse;rw[<- hd1] at HE1;generalize (⟨x.name.toArray⟩:ByteArray)=tx at *;generalize (⟨y.name.toArray⟩:ByteArray)=ty at *;generalize x.b.length=NF at *;generalize y.b.length=MF at *;clear hx hy hd0 hd1 HXY
 cases d0 with
 | false=>
  have Wp:¬tx.toList=ty.toList:=by simpa using hse
  clear hse
  go_enter Tryz.func100,Tryz.ntmps100
  go_wp2_with fail
  go_ret
  exact⟨by rw[HD.out];rfl,N7⟩
 | true=>
  have Wp:tx.toList=ty.toList:=by simpa using hse
  clear hse
  go_enter Tryz.func100,Tryz.ntmps100
  go_wp2_with fail
  refine Calls.mono (HE1.out _ N7) ?_
  rintro e w3 ⟨rfl,hb3⟩
  have HB3:Hid (Bq w w3):=N7.trans (hb3.mono N7.size)
  clear hb3 HE1
  go_wp2_with fail
  go_ret
  exact⟨by rw[HD.out];rfl,HB3.out⟩
end Go.Proofs.YtllgglolcgdehaaGreatDoor
namespace Go.Proofs.YtllgglolcgdehaaGreatDoor
open Go.RowKit Go.Gs
set_option linter.unusedVariables false
theorem bn4 (ab ac:Option Addr) (ca cc:Nat) (bs:List UInt8) (room:Int) (cl sh:Bool) (w:World) (ha:Reads w (.slice ab bs.length ca) bs.length (bs.map U)) (hc:Reads w (.slice ac bs.length cc) bs.length (bs.map U)) :
 Calls Tryz.prog 36 #[.agg #[.slice ab bs.length ca,.int .i64 room,.bool cl,.bool sh],.agg #[.slice ac bs.length cc,.int .i64 room,.bool cl,.bool sh]] w fun e w'=>e=.returned (.bool true)/\Bq w w':=by have HO:Hid _:=fun (W:World) (hW:Bq w W)=>cl8 ab ac ca cc bs bs W (Reads.below ha hW) (Reads.below hc hW);have hd:decide (bs=bs)=true:=decide_eq_true rfl;rw[hd] at HO;generalize bs.length=N at *;clear ha hc hd;go_enter Tryz.func36,Tryz.ntmps36;go_wp2_with fail;refine Calls.mono (HO.out _ ag5) ?_;rintro e w1 ⟨rfl,hb1⟩;obtain⟨x1,x2⟩:=aP8 hb1;obtain⟨c0,c1,c2,c3⟩:=E7 x1;obtain⟨d0,d1,d2,d3⟩:=E7 x2;have HB1:Hid (Bq w w1):=ag5.trans (hb1.mono ag5.size);clear hb1 HO x1 x2;go_wp2_with fail;go_ret;exact⟨rfl,HB1.out⟩
end Go.Proofs.YtllgglolcgdehaaGreatDoor
