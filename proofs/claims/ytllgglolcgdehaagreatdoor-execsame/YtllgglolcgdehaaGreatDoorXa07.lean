/- What the developers' Read does, for every pipe, and more. -/
import Derived.Laws.CopyOwn
import Derived.OwnWalk
import Derived.Test.YtllgglolcgdehaaGreatDoorXa06
set_option maxRecDepth 100000
set_option maxHeartbeats 16000000
namespace Go.Proofs.YtllgglolcgdehaaGreatDoor
open Go.RowKit Go.Gs
set_option linter.unusedVariables false
theorem nil_formP {w:World} {n cap:Nat} {xs:List Value} (h:Reads w (.slice none n cap) n xs) (hz:cap=0):n=0/\cap=0:=by
 obtain⟨_,_,h1⟩:=reads_leP h
 exact⟨by omega,hz⟩
theorem reads_noneP {w:World} {ao:Option Addr} {n cap:Nat} {bs:List UInt8} (hn:n=0) (hl:bs.length=0) (hc:n<=cap) (hm:cap<=9223372036854775807):Reads w (.slice ao n cap) n (bs.map U):=
 ⟨by rw[List.length_map];omega,ao,cap,rfl,hc,by unfold maxLen;omega,fun h=>absurd hn h⟩
theorem reads_dropAnyP {w:World} {a:Addr} {n cap k:Nat} {bs:List UInt8} (h:Reads w (.slice (some a) n cap) n (bs.map U)) (hk:k<=n):Reads w (.slice (some (a.add k)) (n-k) (cap-k)) (n-k) ((bs.drop k).map U):=by
 have h0:=h
 obtain⟨hl,ao,cap',e,h3,h4,h5⟩:=h
 injection e with e1 e2 e3
 subst e3
 rw[List.length_map] at hl
 by_cases hn:n-k=0
 . exact⟨by simp;omega,_,_,rfl,by omega,by omega,fun h=>absurd hn h⟩
 .
  obtain⟨b,off,e,_⟩:=h5 (by omega)
  rw[e] at e1
  injection e1 with e1
  subst e1
  rw[addP]
  exact reads_dropP h0 hk
def ReadEnd (w:World) (z:SPipe × List UInt8 × Int) (e:Ending) (w':World):Prop:=
 ∃ar cr ag cg,e=.returned (.tuple #[pipeV z.1 ar cr,.slice ag z.2.1.length cg,.int .i64 z.2.2])/\PB w w' ar cr z.1.b/\PB w w' ag cg z.2.1/\Below w.heap.size w w'
theorem readEnd_err {w w':World} {e:Ending} {r:Int} (he:e=.returned (.tuple #[.agg #[.slice none 0 0,.int .i64 0,.bool false,.bool false],.slice none 0 0,.int .i64 r])) (hb:Below w.heap.size w w'):ReadEnd w (zeroP,[],r) e w':=
 ⟨none,0,none,0,he,PB.none _ _,PB.none _ _,hb⟩
theorem read_is (ab:Option Addr) (cap:Nat) (p:SPipe) (m:Int) (w:World) (hr:Reads w (.slice ab p.b.length cap) p.b.length (p.b.map U)) (hz:ab=none->cap=0) :
 Calls Tryz.prog 169 #[pipeV p ab cap,.int .i64 m] w fun e w'=>ReadEnd w (pread p m) e w':=by
 obtain⟨bs,room,cl,sh⟩:=p
 have hn:=(reads_leP hr).1
 have HR:Hid (Reads w (.slice ab bs.length cap) bs.length (bs.map U)):=hr
 have HO:Hid _:=fun (W:World)=>pcheck_is ab bs.length cap room cl sh W hn
 have HB:Hid _:=fun h=>pread_bad (p:=⟨bs,room,cl,sh⟩) (m:=m) h
 have HG:Hid _:=fun h=>pread_range (p:=⟨bs,room,cl,sh⟩) (m:=m) h
 have HK:Hid _:=fun h=>pread_ok (p:=⟨bs,room,cl,sh⟩) (m:=m) h
 have HL:Hid (pck bs.length room sh=0->bs.length<=100000):=(show pck bs.length room sh=0->bs.length<=100000 from fun h=>by
  obtain⟨_,g2,g3,_⟩:=pck_ok h
  have g4:plim room<=40000:=plim_le g2
  omega)
 unfold pchk at HB HG HK
 unfold pipeV
 generalize hZ:pread ⟨bs,room,cl,sh⟩ m=Z at *
 simp only at HB HG HK hn ⊢
 obtain⟨L,hL⟩:∃L,L=pck bs.length room sh:=⟨_,rfl⟩
 rw[<- hL] at HO HB HG HK HL
 obtain⟨N,hN⟩:∃N,N=bs.length:=⟨_,rfl⟩
 have HN:Hid (N=bs.length):=hN
 rw[<- hN] at HO HL HR hn ⊢
 clear hL hZ hr hN
 go_enter Tryz.func169,Tryz.ntmps169
 go_wp2_with fail
 refine (HO.out _).mono ?_
 rintro e w1 ⟨rfl,hb1⟩
 obtain⟨x1,x2⟩:=box44P hb1
 have X1:Hid _:=x1
 have X2:Hid _:=x2
 obtain⟨c0,c1,c2,c3⟩:=cells4P x1
 have HB1:Hid (Below w.heap.size w w1):=boxr2P.trans (hb1.mono boxr2P.size)
 have hs:w.heap.size+1<w1.heap.size:=by have:=hb1.size;simp at this;omega
 clear hb1 HO x1 x2
 by_cases h0:L=0
 .
  have hl:=HL.out h0
  by_cases hm:m<0\/4000<m
  .
   obtain rfl:=HG.out h0 hm
   obtain⟨d0,d1,d2,d3⟩:=cells4P X2.out
   obtain⟨g0,g1,g2,g3⟩:=frz4P X2.out
   clear HK HB HL HG X1 X2
   subst h0
   by_cases hm0:m<0
   .
    clear hm
    go_wp2_with fail
    (try simp only[Exit.inBlock,Exit.then])
    refine bodyPost_ret (v:=.tuple #[.agg #[.slice none 0 0,.int .i64 0,.bool false,.bool false],.slice none 0 0,.int .i64 3]) ?_ rfl (readEnd_err rfl ?_)
    . rw[results_cell_tmp2P rfl]
      go_simp
    . repeat (first | refine Below.setCell ?_ (by simp) _ | exact HB1.out)
   .
    have hm1:4000<m:=by omega
    clear hm
    go_wp2_with fail
    (try simp only[Exit.inBlock,Exit.then])
    refine bodyPost_ret (v:=.tuple #[.agg #[.slice none 0 0,.int .i64 0,.bool false,.bool false],.slice none 0 0,.int .i64 3]) ?_ rfl (readEnd_err rfl ?_)
    . rw[results_cell_tmp2P rfl]
      go_simp
    . repeat (first | refine Below.setCell ?_ (by simp) _ | exact HB1.out)
  .
   have HZ:Hid _:=HK.out h0 hm
   clear HK HB HL HG
   subst h0
   have hm0:¬m<0:=by omega
   have hm1:¬4000<m:=by omega
   obtain⟨M,rfl⟩:=Int.eq_ofNat_of_zero_le (show 0<=m by omega)
   clear hm hm0
   rw[Int.toNat_natCast,<- HN.out] at HZ
   have hcc:=(reads_leP HR.out).2
   cases ab with
   | none=>
    obtain⟨rfl,rfl⟩:=nil_formP HR.out (hz rfl)
    rcases Nat.eq_zero_or_pos M with rfl | hMp
    .
     have HZ2:Hid (Z=(⟨bs.drop 0,room,cl,sh⟩,bs.take 0,0)):=(show _=_ by rw[HZ.out];first | rw[Nat.min_eq_left (by omega)] | rw[Nat.min_eq_right (by omega)])
     clear HZ
     have HD:Hid (∀W,Below w.heap.size w W->Reads W (.slice none (0) (0)) (0) ((bs.drop 0).map U)):=(show ∀W,Below w.heap.size w W->Reads W (.slice none (0) (0)) (0) ((bs.drop 0).map U) from fun W hW=>reads_noneP (by omega) (by rw[List.length_drop,<- HN.out];try omega) (by omega) (by omega))
     have hl1:(bs.take 0).length=0:=by rw[List.length_take,<- HN.out];omega
     have hl2:(bs.drop 0).length=0:=by rw[List.length_drop,<- HN.out];first | done | omega
     have hC1:=bcloneP none 0 (bs.take 0) w1 (by rw[hl1];exact reads_takeP (Reads.below HR.out HB1.out) (Nat.le_refl _)) (by omega)
     have hC2:=fun (W:World) (hW:Below w1.heap.size w1 W)=>bcloneP none 0 (bs.drop 0) W (by rw[hl2];exact HD.out _ (HB1.out.trans (hW.mono HB1.out.size))) (by omega)
     rw[hl1] at hC1
     rw[hl2] at hC2
     have HL1:Hid _:=hl1
     have HL2:Hid _:=hl2
     have HC1:Hid _:=hC1
     have HC2:Hid _:=hC2
     clear hC1 hC2 hl1 hl2 HR HD
     go_wp2_with fail
     refine Calls.mono HC1.out ?_
     rintro e w2 ⟨ag,cg,rfl,hpg,hb2⟩
     have X1':Hid _:=(hb2.block _ (by omega)).trans X1.out
     have X2':Hid _:=(hb2.block _ (by omega)).trans X2.out
     clear c0 c1 c2 c3
     obtain⟨c0,c1,c2,c3⟩:=cells4P X1'.out
     have HPG:Hid (PB w1 w2 ag cg (bs.take 0)):=hpg
     have hs2:=hb2.size
     have HB2:Hid (Below w1.heap.size w1 w2):=hb2
     clear hb2 hpg HC1 X1 X2
     go_wp2_with fail
     refine Calls.mono (HC2.out w2 HB2.out) ?_
     rintro e w3 ⟨ar,cr,rfl,hpr,hb3⟩
     clear c0 c1 c2 c3
     obtain⟨c0,c1,c2,c3⟩:=cells4P ((hb3.block _ (by omega)).trans X1'.out)
     obtain⟨d0,d1,d2,d3⟩:=cells4P ((hb3.block _ (by omega)).trans X2'.out)
     obtain⟨f0,f1,f2,f3⟩:=frz4P ((hb3.block _ (by omega)).trans X1'.out)
     obtain⟨g0,g1,g2,g3⟩:=frz4P ((hb3.block _ (by omega)).trans X2'.out)
     have HPR:Hid (PB w2 w3 ar cr (bs.drop 0)):=hpr
     have HPG3:Hid (PB w1 w3 ag cg (bs.take 0)):=⟨Reads.below HPG.out.1 hb3,HPG.out.2⟩
     have HB3:Hid (Below w.heap.size w w3):=HB1.out.trans ((HB2.out.trans (hb3.mono hs2)).mono HB1.out.size)
     clear hb3 hpr HC2 X1' X2' HPG
     go_wp2_with fail
     (try simp only[Exit.inBlock,Exit.then])
     refine bodyPost_ret (v:=.tuple #[.agg #[.slice ar (0) cr,.int .i64 room,.bool cl,.bool sh],.slice ag 0 cg,.int .i64 0]) ?_ rfl ?_
     . rw[results_cell_tmp2P rfl]
       go_simp
     .
      rw[HZ2.out]
      refine⟨ar,cr,ag,cg,?_,?_,?_,?_⟩
      . unfold pipeV
        simp only
        rw[HL1.out,HL2.out]
      . refine PB.fromP (w1:=w2) ?_ (by have:=HB1.out.size;omega)
        repeat (first | refine PB.setP ?_ (by omega) _ | exact HPR.out)
      . refine PB.fromP (w1:=w1) ?_ HB1.out.size
        repeat (first | refine PB.setP ?_ (by omega) _ | exact HPG3.out)
      . repeat (first | refine Below.setCell ?_ (by simp) _ | exact HB3.out)
    .
     have HZ2:Hid (Z=(⟨bs.drop 0,room,cl,sh⟩,bs.take 0,0)):=(show _=_ by rw[HZ.out];first | rw[Nat.min_eq_left (by omega)] | rw[Nat.min_eq_right (by omega)])
     clear HZ
     have HD:Hid (∀W,Below w.heap.size w W->Reads W (.slice none (0) (0)) (0) ((bs.drop 0).map U)):=(show ∀W,Below w.heap.size w W->Reads W (.slice none (0) (0)) (0) ((bs.drop 0).map U) from fun W hW=>reads_noneP (by omega) (by rw[List.length_drop,<- HN.out];try omega) (by omega) (by omega))
     have hl1:(bs.take 0).length=0:=by rw[List.length_take,<- HN.out];omega
     have hl2:(bs.drop 0).length=0:=by rw[List.length_drop,<- HN.out];first | done | omega
     have hC1:=bcloneP none 0 (bs.take 0) w1 (by rw[hl1];exact reads_takeP (Reads.below HR.out HB1.out) (Nat.le_refl _)) (by omega)
     have hC2:=fun (W:World) (hW:Below w1.heap.size w1 W)=>bcloneP none 0 (bs.drop 0) W (by rw[hl2];exact HD.out _ (HB1.out.trans (hW.mono HB1.out.size))) (by omega)
     rw[hl1] at hC1
     rw[hl2] at hC2
     have HL1:Hid _:=hl1
     have HL2:Hid _:=hl2
     have HC1:Hid _:=hC1
     have HC2:Hid _:=hC2
     clear hC1 hC2 hl1 hl2 HR HD
     go_wp2_with fail
     refine Calls.mono HC1.out ?_
     rintro e w2 ⟨ag,cg,rfl,hpg,hb2⟩
     have X1':Hid _:=(hb2.block _ (by omega)).trans X1.out
     have X2':Hid _:=(hb2.block _ (by omega)).trans X2.out
     clear c0 c1 c2 c3
     obtain⟨c0,c1,c2,c3⟩:=cells4P X1'.out
     have HPG:Hid (PB w1 w2 ag cg (bs.take 0)):=hpg
     have hs2:=hb2.size
     have HB2:Hid (Below w1.heap.size w1 w2):=hb2
     clear hb2 hpg HC1 X1 X2
     go_wp2_with fail
     refine Calls.mono (HC2.out w2 HB2.out) ?_
     rintro e w3 ⟨ar,cr,rfl,hpr,hb3⟩
     clear c0 c1 c2 c3
     obtain⟨c0,c1,c2,c3⟩:=cells4P ((hb3.block _ (by omega)).trans X1'.out)
     obtain⟨d0,d1,d2,d3⟩:=cells4P ((hb3.block _ (by omega)).trans X2'.out)
     obtain⟨f0,f1,f2,f3⟩:=frz4P ((hb3.block _ (by omega)).trans X1'.out)
     obtain⟨g0,g1,g2,g3⟩:=frz4P ((hb3.block _ (by omega)).trans X2'.out)
     have HPR:Hid (PB w2 w3 ar cr (bs.drop 0)):=hpr
     have HPG3:Hid (PB w1 w3 ag cg (bs.take 0)):=⟨Reads.below HPG.out.1 hb3,HPG.out.2⟩
     have HB3:Hid (Below w.heap.size w w3):=HB1.out.trans ((HB2.out.trans (hb3.mono hs2)).mono HB1.out.size)
     clear hb3 hpr HC2 X1' X2' HPG
     go_wp2_with fail
     (try simp only[Exit.inBlock,Exit.then])
     refine bodyPost_ret (v:=.tuple #[.agg #[.slice ar (0) cr,.int .i64 room,.bool cl,.bool sh],.slice ag 0 cg,.int .i64 0]) ?_ rfl ?_
     . rw[results_cell_tmp2P rfl]
       go_simp
     .
      rw[HZ2.out]
      refine⟨ar,cr,ag,cg,?_,?_,?_,?_⟩
      . unfold pipeV
        simp only
        rw[HL1.out,HL2.out]
      . refine PB.fromP (w1:=w2) ?_ (by have:=HB1.out.size;omega)
        repeat (first | refine PB.setP ?_ (by omega) _ | exact HPR.out)
      . refine PB.fromP (w1:=w1) ?_ HB1.out.size
        repeat (first | refine PB.setP ?_ (by omega) _ | exact HPG3.out)
      . repeat (first | refine Below.setCell ?_ (by simp) _ | exact HB3.out)
   | some a=>
    rcases Nat.lt_trichotomy M N with hMN | rfl | hMN
    .
     have HZ2:Hid (Z=(⟨bs.drop M,room,cl,sh⟩,bs.take M,0)):=(show _=_ by rw[HZ.out];first | rw[Nat.min_eq_left (by omega)] | rw[Nat.min_eq_right (by omega)])
     clear HZ
     have hkN:M<=N:=by omega
     have hcap:¬cap=M:=by omega
     have HD:Hid (∀W,Below w.heap.size w W->Reads W (.slice (some (a.add M)) (N-M) (cap-M)) (N-M) ((bs.drop M).map U)):=(show ∀W,Below w.heap.size w W->Reads W (.slice (some (a.add M)) (N-M) (cap-M)) (N-M) ((bs.drop M).map U) from fun W hW=>reads_dropAnyP (Reads.below HR.out hW) hkN)
     have hl1:(bs.take M).length=M:=by rw[List.length_take,<- HN.out];omega
     have hl2:(bs.drop M).length=N-M:=by rw[List.length_drop,<- HN.out];first | done | omega
     have hC1:=bcloneP (some a) cap (bs.take M) w1 (by rw[hl1];exact reads_takeP (Reads.below HR.out HB1.out) hkN) (by omega)
     have hC2:=fun (W:World) (hW:Below w1.heap.size w1 W)=>bcloneP (some (a.add M)) (cap-M) (bs.drop M) W (by rw[hl2];exact HD.out _ (HB1.out.trans (hW.mono HB1.out.size))) (by omega)
     rw[hl1] at hC1
     rw[hl2] at hC2
     have HL1:Hid _:=hl1
     have HL2:Hid _:=hl2
     have HC1:Hid _:=hC1
     have HC2:Hid _:=hC2
     clear hC1 hC2 hl1 hl2 HR HD
     go_wp2_with fail
     refine Calls.mono HC1.out ?_
     rintro e w2 ⟨ag,cg,rfl,hpg,hb2⟩
     have X1':Hid _:=(hb2.block _ (by omega)).trans X1.out
     have X2':Hid _:=(hb2.block _ (by omega)).trans X2.out
     clear c0 c1 c2 c3
     obtain⟨c0,c1,c2,c3⟩:=cells4P X1'.out
     have HPG:Hid (PB w1 w2 ag cg (bs.take M)):=hpg
     have hs2:=hb2.size
     have HB2:Hid (Below w1.heap.size w1 w2):=hb2
     clear hb2 hpg HC1 X1 X2
     go_wp2_with fail
     refine Calls.mono (HC2.out w2 HB2.out) ?_
     rintro e w3 ⟨ar,cr,rfl,hpr,hb3⟩
     clear c0 c1 c2 c3
     obtain⟨c0,c1,c2,c3⟩:=cells4P ((hb3.block _ (by omega)).trans X1'.out)
     obtain⟨d0,d1,d2,d3⟩:=cells4P ((hb3.block _ (by omega)).trans X2'.out)
     obtain⟨f0,f1,f2,f3⟩:=frz4P ((hb3.block _ (by omega)).trans X1'.out)
     obtain⟨g0,g1,g2,g3⟩:=frz4P ((hb3.block _ (by omega)).trans X2'.out)
     have HPR:Hid (PB w2 w3 ar cr (bs.drop M)):=hpr
     have HPG3:Hid (PB w1 w3 ag cg (bs.take M)):=⟨Reads.below HPG.out.1 hb3,HPG.out.2⟩
     have HB3:Hid (Below w.heap.size w w3):=HB1.out.trans ((HB2.out.trans (hb3.mono hs2)).mono HB1.out.size)
     clear hb3 hpr HC2 X1' X2' HPG
     go_wp2_with fail
     (try simp only[Exit.inBlock,Exit.then])
     refine bodyPost_ret (v:=.tuple #[.agg #[.slice ar (N-M) cr,.int .i64 room,.bool cl,.bool sh],.slice ag M cg,.int .i64 0]) ?_ rfl ?_
     . rw[results_cell_tmp2P rfl]
       go_simp
     .
      rw[HZ2.out]
      refine⟨ar,cr,ag,cg,?_,?_,?_,?_⟩
      . unfold pipeV
        simp only
        rw[HL1.out,HL2.out]
      . refine PB.fromP (w1:=w2) ?_ (by have:=HB1.out.size;omega)
        repeat (first | refine PB.setP ?_ (by omega) _ | exact HPR.out)
      . refine PB.fromP (w1:=w1) ?_ HB1.out.size
        repeat (first | refine PB.setP ?_ (by omega) _ | exact HPG3.out)
      . repeat (first | refine Below.setCell ?_ (by simp) _ | exact HB3.out)
    .
     have HZ2:Hid (Z=(⟨bs.drop M,room,cl,sh⟩,bs.take M,0)):=(show _=_ by rw[HZ.out];first | rw[Nat.min_eq_left (by omega)] | rw[Nat.min_eq_right (by omega)])
     clear HZ
     have hkN:M<=M:=by omega
     by_cases hcap:cap=M
     .
      subst hcap
      have HD:Hid (∀W,Below w.heap.size w W->Reads W (.slice (some a) (0) (0)) (0) ((bs.drop cap).map U)):=(show ∀W,Below w.heap.size w W->Reads W (.slice (some a) (0) (0)) (0) ((bs.drop cap).map U) from fun W hW=>reads_noneP (by omega) (by rw[List.length_drop,<- HN.out];try omega) (by omega) (by omega))
      have hl1:(bs.take cap).length=cap:=by rw[List.length_take,<- HN.out];omega
      have hl2:(bs.drop cap).length=0:=by rw[List.length_drop,<- HN.out];first | done | omega
      have hC1:=bcloneP (some a) cap (bs.take cap) w1 (by rw[hl1];exact reads_takeP (Reads.below HR.out HB1.out) hkN) (by omega)
      have hC2:=fun (W:World) (hW:Below w1.heap.size w1 W)=>bcloneP (some a) 0 (bs.drop cap) W (by rw[hl2];exact HD.out _ (HB1.out.trans (hW.mono HB1.out.size))) (by omega)
      rw[hl1] at hC1
      rw[hl2] at hC2
      have HL1:Hid _:=hl1
      have HL2:Hid _:=hl2
      have HC1:Hid _:=hC1
      have HC2:Hid _:=hC2
      clear hC1 hC2 hl1 hl2 HR HD
      go_wp2_with fail
      refine Calls.mono HC1.out ?_
      rintro e w2 ⟨ag,cg,rfl,hpg,hb2⟩
      have X1':Hid _:=(hb2.block _ (by omega)).trans X1.out
      have X2':Hid _:=(hb2.block _ (by omega)).trans X2.out
      clear c0 c1 c2 c3
      obtain⟨c0,c1,c2,c3⟩:=cells4P X1'.out
      have HPG:Hid (PB w1 w2 ag cg (bs.take cap)):=hpg
      have hs2:=hb2.size
      have HB2:Hid (Below w1.heap.size w1 w2):=hb2
      clear hb2 hpg HC1 X1 X2
      go_wp2_with fail
      refine Calls.mono (HC2.out w2 HB2.out) ?_
      rintro e w3 ⟨ar,cr,rfl,hpr,hb3⟩
      clear c0 c1 c2 c3
      obtain⟨c0,c1,c2,c3⟩:=cells4P ((hb3.block _ (by omega)).trans X1'.out)
      obtain⟨d0,d1,d2,d3⟩:=cells4P ((hb3.block _ (by omega)).trans X2'.out)
      obtain⟨f0,f1,f2,f3⟩:=frz4P ((hb3.block _ (by omega)).trans X1'.out)
      obtain⟨g0,g1,g2,g3⟩:=frz4P ((hb3.block _ (by omega)).trans X2'.out)
      have HPR:Hid (PB w2 w3 ar cr (bs.drop cap)):=hpr
      have HPG3:Hid (PB w1 w3 ag cg (bs.take cap)):=⟨Reads.below HPG.out.1 hb3,HPG.out.2⟩
      have HB3:Hid (Below w.heap.size w w3):=HB1.out.trans ((HB2.out.trans (hb3.mono hs2)).mono HB1.out.size)
      clear hb3 hpr HC2 X1' X2' HPG
      go_wp2_with fail
      (try simp only[Exit.inBlock,Exit.then])
      refine bodyPost_ret (v:=.tuple #[.agg #[.slice ar (0) cr,.int .i64 room,.bool cl,.bool sh],.slice ag cap cg,.int .i64 0]) ?_ rfl ?_
      . rw[results_cell_tmp2P rfl]
        go_simp
      .
       rw[HZ2.out]
       refine⟨ar,cr,ag,cg,?_,?_,?_,?_⟩
       . unfold pipeV
         simp only
         rw[HL1.out,HL2.out]
       . refine PB.fromP (w1:=w2) ?_ (by have:=HB1.out.size;omega)
         repeat (first | refine PB.setP ?_ (by omega) _ | exact HPR.out)
       . refine PB.fromP (w1:=w1) ?_ HB1.out.size
         repeat (first | refine PB.setP ?_ (by omega) _ | exact HPG3.out)
       . repeat (first | refine Below.setCell ?_ (by simp) _ | exact HB3.out)
     .
      have HD:Hid (∀W,Below w.heap.size w W->Reads W (.slice (some (a.add M)) (0) (cap-M)) (0) ((bs.drop M).map U)):=(show ∀W,Below w.heap.size w W->Reads W (.slice (some (a.add M)) (0) (cap-M)) (0) ((bs.drop M).map U) from fun W hW=>reads_noneP (by omega) (by rw[List.length_drop,<- HN.out];try omega) (by omega) (by omega))
      have hl1:(bs.take M).length=M:=by rw[List.length_take,<- HN.out];omega
      have hl2:(bs.drop M).length=0:=by rw[List.length_drop,<- HN.out];first | done | omega
      have hC1:=bcloneP (some a) cap (bs.take M) w1 (by rw[hl1];exact reads_takeP (Reads.below HR.out HB1.out) hkN) (by omega)
      have hC2:=fun (W:World) (hW:Below w1.heap.size w1 W)=>bcloneP (some (a.add M)) (cap-M) (bs.drop M) W (by rw[hl2];exact HD.out _ (HB1.out.trans (hW.mono HB1.out.size))) (by omega)
      rw[hl1] at hC1
      rw[hl2] at hC2
      have HL1:Hid _:=hl1
      have HL2:Hid _:=hl2
      have HC1:Hid _:=hC1
      have HC2:Hid _:=hC2
      clear hC1 hC2 hl1 hl2 HR HD
      go_wp2_with fail
      refine Calls.mono HC1.out ?_
      rintro e w2 ⟨ag,cg,rfl,hpg,hb2⟩
      have X1':Hid _:=(hb2.block _ (by omega)).trans X1.out
      have X2':Hid _:=(hb2.block _ (by omega)).trans X2.out
      clear c0 c1 c2 c3
      obtain⟨c0,c1,c2,c3⟩:=cells4P X1'.out
      have HPG:Hid (PB w1 w2 ag cg (bs.take M)):=hpg
      have hs2:=hb2.size
      have HB2:Hid (Below w1.heap.size w1 w2):=hb2
      clear hb2 hpg HC1 X1 X2
      go_wp2_with fail
      refine Calls.mono (HC2.out w2 HB2.out) ?_
      rintro e w3 ⟨ar,cr,rfl,hpr,hb3⟩
      clear c0 c1 c2 c3
      obtain⟨c0,c1,c2,c3⟩:=cells4P ((hb3.block _ (by omega)).trans X1'.out)
      obtain⟨d0,d1,d2,d3⟩:=cells4P ((hb3.block _ (by omega)).trans X2'.out)
      obtain⟨f0,f1,f2,f3⟩:=frz4P ((hb3.block _ (by omega)).trans X1'.out)
      obtain⟨g0,g1,g2,g3⟩:=frz4P ((hb3.block _ (by omega)).trans X2'.out)
      have HPR:Hid (PB w2 w3 ar cr (bs.drop M)):=hpr
      have HPG3:Hid (PB w1 w3 ag cg (bs.take M)):=⟨Reads.below HPG.out.1 hb3,HPG.out.2⟩
      have HB3:Hid (Below w.heap.size w w3):=HB1.out.trans ((HB2.out.trans (hb3.mono hs2)).mono HB1.out.size)
      clear hb3 hpr HC2 X1' X2' HPG
      go_wp2_with fail
      (try simp only[Exit.inBlock,Exit.then])
      refine bodyPost_ret (v:=.tuple #[.agg #[.slice ar (0) cr,.int .i64 room,.bool cl,.bool sh],.slice ag M cg,.int .i64 0]) ?_ rfl ?_
      . rw[results_cell_tmp2P rfl]
        go_simp
      .
       rw[HZ2.out]
       refine⟨ar,cr,ag,cg,?_,?_,?_,?_⟩
       . unfold pipeV
         simp only
         rw[HL1.out,HL2.out]
       . refine PB.fromP (w1:=w2) ?_ (by have:=HB1.out.size;omega)
         repeat (first | refine PB.setP ?_ (by omega) _ | exact HPR.out)
       . refine PB.fromP (w1:=w1) ?_ HB1.out.size
         repeat (first | refine PB.setP ?_ (by omega) _ | exact HPG3.out)
       . repeat (first | refine Below.setCell ?_ (by simp) _ | exact HB3.out)
    .
     have HZ2:Hid (Z=(⟨bs.drop N,room,cl,sh⟩,bs.take N,0)):=(show _=_ by rw[HZ.out];first | rw[Nat.min_eq_left (by omega)] | rw[Nat.min_eq_right (by omega)])
     clear HZ
     have hkN:N<=N:=by omega
     by_cases hcap:cap=N
     .
      subst hcap
      have HD:Hid (∀W,Below w.heap.size w W->Reads W (.slice (some a) (0) (0)) (0) ((bs.drop cap).map U)):=(show ∀W,Below w.heap.size w W->Reads W (.slice (some a) (0) (0)) (0) ((bs.drop cap).map U) from fun W hW=>reads_noneP (by omega) (by rw[List.length_drop,<- HN.out];try omega) (by omega) (by omega))
      have hl1:(bs.take cap).length=cap:=by rw[List.length_take,<- HN.out];omega
      have hl2:(bs.drop cap).length=0:=by rw[List.length_drop,<- HN.out];first | done | omega
      have hC1:=bcloneP (some a) cap (bs.take cap) w1 (by rw[hl1];exact reads_takeP (Reads.below HR.out HB1.out) hkN) (by omega)
      have hC2:=fun (W:World) (hW:Below w1.heap.size w1 W)=>bcloneP (some a) 0 (bs.drop cap) W (by rw[hl2];exact HD.out _ (HB1.out.trans (hW.mono HB1.out.size))) (by omega)
      rw[hl1] at hC1
      rw[hl2] at hC2
      have HL1:Hid _:=hl1
      have HL2:Hid _:=hl2
      have HC1:Hid _:=hC1
      have HC2:Hid _:=hC2
      clear hC1 hC2 hl1 hl2 HR HD
      go_wp2_with fail
      refine Calls.mono HC1.out ?_
      rintro e w2 ⟨ag,cg,rfl,hpg,hb2⟩
      have X1':Hid _:=(hb2.block _ (by omega)).trans X1.out
      have X2':Hid _:=(hb2.block _ (by omega)).trans X2.out
      clear c0 c1 c2 c3
      obtain⟨c0,c1,c2,c3⟩:=cells4P X1'.out
      have HPG:Hid (PB w1 w2 ag cg (bs.take cap)):=hpg
      have hs2:=hb2.size
      have HB2:Hid (Below w1.heap.size w1 w2):=hb2
      clear hb2 hpg HC1 X1 X2
      go_wp2_with fail
      refine Calls.mono (HC2.out w2 HB2.out) ?_
      rintro e w3 ⟨ar,cr,rfl,hpr,hb3⟩
      clear c0 c1 c2 c3
      obtain⟨c0,c1,c2,c3⟩:=cells4P ((hb3.block _ (by omega)).trans X1'.out)
      obtain⟨d0,d1,d2,d3⟩:=cells4P ((hb3.block _ (by omega)).trans X2'.out)
      obtain⟨f0,f1,f2,f3⟩:=frz4P ((hb3.block _ (by omega)).trans X1'.out)
      obtain⟨g0,g1,g2,g3⟩:=frz4P ((hb3.block _ (by omega)).trans X2'.out)
      have HPR:Hid (PB w2 w3 ar cr (bs.drop cap)):=hpr
      have HPG3:Hid (PB w1 w3 ag cg (bs.take cap)):=⟨Reads.below HPG.out.1 hb3,HPG.out.2⟩
      have HB3:Hid (Below w.heap.size w w3):=HB1.out.trans ((HB2.out.trans (hb3.mono hs2)).mono HB1.out.size)
      clear hb3 hpr HC2 X1' X2' HPG
      go_wp2_with fail
      (try simp only[Exit.inBlock,Exit.then])
      refine bodyPost_ret (v:=.tuple #[.agg #[.slice ar (0) cr,.int .i64 room,.bool cl,.bool sh],.slice ag cap cg,.int .i64 0]) ?_ rfl ?_
      . rw[results_cell_tmp2P rfl]
        go_simp
      .
       rw[HZ2.out]
       refine⟨ar,cr,ag,cg,?_,?_,?_,?_⟩
       . unfold pipeV
         simp only
         rw[HL1.out,HL2.out]
       . refine PB.fromP (w1:=w2) ?_ (by have:=HB1.out.size;omega)
         repeat (first | refine PB.setP ?_ (by omega) _ | exact HPR.out)
       . refine PB.fromP (w1:=w1) ?_ HB1.out.size
         repeat (first | refine PB.setP ?_ (by omega) _ | exact HPG3.out)
       . repeat (first | refine Below.setCell ?_ (by simp) _ | exact HB3.out)
     .
      have HD:Hid (∀W,Below w.heap.size w W->Reads W (.slice (some (a.add N)) (0) (cap-N)) (0) ((bs.drop N).map U)):=(show ∀W,Below w.heap.size w W->Reads W (.slice (some (a.add N)) (0) (cap-N)) (0) ((bs.drop N).map U) from fun W hW=>reads_noneP (by omega) (by rw[List.length_drop,<- HN.out];try omega) (by omega) (by omega))
      have hl1:(bs.take N).length=N:=by rw[List.length_take,<- HN.out];omega
      have hl2:(bs.drop N).length=0:=by rw[List.length_drop,<- HN.out];first | done | omega
      have hC1:=bcloneP (some a) cap (bs.take N) w1 (by rw[hl1];exact reads_takeP (Reads.below HR.out HB1.out) hkN) (by omega)
      have hC2:=fun (W:World) (hW:Below w1.heap.size w1 W)=>bcloneP (some (a.add N)) (cap-N) (bs.drop N) W (by rw[hl2];exact HD.out _ (HB1.out.trans (hW.mono HB1.out.size))) (by omega)
      rw[hl1] at hC1
      rw[hl2] at hC2
      have HL1:Hid _:=hl1
      have HL2:Hid _:=hl2
      have HC1:Hid _:=hC1
      have HC2:Hid _:=hC2
      clear hC1 hC2 hl1 hl2 HR HD
      go_wp2_with fail
      refine Calls.mono HC1.out ?_
      rintro e w2 ⟨ag,cg,rfl,hpg,hb2⟩
      have X1':Hid _:=(hb2.block _ (by omega)).trans X1.out
      have X2':Hid _:=(hb2.block _ (by omega)).trans X2.out
      clear c0 c1 c2 c3
      obtain⟨c0,c1,c2,c3⟩:=cells4P X1'.out
      have HPG:Hid (PB w1 w2 ag cg (bs.take N)):=hpg
      have hs2:=hb2.size
      have HB2:Hid (Below w1.heap.size w1 w2):=hb2
      clear hb2 hpg HC1 X1 X2
      go_wp2_with fail
      refine Calls.mono (HC2.out w2 HB2.out) ?_
      rintro e w3 ⟨ar,cr,rfl,hpr,hb3⟩
      clear c0 c1 c2 c3
      obtain⟨c0,c1,c2,c3⟩:=cells4P ((hb3.block _ (by omega)).trans X1'.out)
      obtain⟨d0,d1,d2,d3⟩:=cells4P ((hb3.block _ (by omega)).trans X2'.out)
      obtain⟨f0,f1,f2,f3⟩:=frz4P ((hb3.block _ (by omega)).trans X1'.out)
      obtain⟨g0,g1,g2,g3⟩:=frz4P ((hb3.block _ (by omega)).trans X2'.out)
      have HPR:Hid (PB w2 w3 ar cr (bs.drop N)):=hpr
      have HPG3:Hid (PB w1 w3 ag cg (bs.take N)):=⟨Reads.below HPG.out.1 hb3,HPG.out.2⟩
      have HB3:Hid (Below w.heap.size w w3):=HB1.out.trans ((HB2.out.trans (hb3.mono hs2)).mono HB1.out.size)
      clear hb3 hpr HC2 X1' X2' HPG
      go_wp2_with fail
      (try simp only[Exit.inBlock,Exit.then])
      refine bodyPost_ret (v:=.tuple #[.agg #[.slice ar (0) cr,.int .i64 room,.bool cl,.bool sh],.slice ag N cg,.int .i64 0]) ?_ rfl ?_
      . rw[results_cell_tmp2P rfl]
        go_simp
      .
       rw[HZ2.out]
       refine⟨ar,cr,ag,cg,?_,?_,?_,?_⟩
       . unfold pipeV
         simp only
         rw[HL1.out,HL2.out]
       . refine PB.fromP (w1:=w2) ?_ (by have:=HB1.out.size;omega)
         repeat (first | refine PB.setP ?_ (by omega) _ | exact HPR.out)
       . refine PB.fromP (w1:=w1) ?_ HB1.out.size
         repeat (first | refine PB.setP ?_ (by omega) _ | exact HPG3.out)
       . repeat (first | refine Below.setCell ?_ (by simp) _ | exact HB3.out)
 .
  obtain rfl:=HB.out h0
  obtain⟨d0,d1,d2,d3⟩:=cells4P X2.out
  obtain⟨g0,g1,g2,g3⟩:=frz4P X2.out
  clear HK HB HL HG X1 X2
  go_wp2_with fail
  (try simp only[Exit.inBlock,Exit.then])
  refine bodyPost_ret (v:=.tuple #[.agg #[.slice none 0 0,.int .i64 0,.bool false,.bool false],.slice none 0 0,.int .i64 L]) ?_ rfl (readEnd_err rfl ?_)
  . rw[results_cell_tmp2P rfl]
    go_simp
  . repeat (first | refine Below.setCell ?_ (by simp) _ | exact HB1.out)
theorem row_ownsP {w:World} {B:Nat} {t:TypeId} {G n:Nat} {xs:List Value} (h:w.ownsRow B t 1 (.slice (some ⟨G,0,none⟩) n n) n xs):w.heap[G]? = some (.cells xs.toArray t (0,0)):=by
 obtain⟨h1,h2 | ⟨g,cap,cur,h2,h3,h4,h5,h6,h7,h8⟩⟩:=h
 . cases h2.1
 .
  injection h2 with e1 e2 e3
  injection e1 with e1
  injection e1 with e1
  subst e1 e3
  have hx:cur=xs.toArray:=by
   rw[<- h8,List.take_of_length_le (by simp;omega)]
  rw[h4,hx]
theorem grownP {B:Nat} {w w1:World} (h:w.grownBy w1 none) (hB:B<=w.heap.size):Below B w w1:=⟨h.os,h.tape,h.output,h.size,fun k hk=>h.block k (by omega) (by simp)⟩
theorem sizeU8P:(Tryz.prog.info? 5).map (·.size)=some 1:=by kernel_rfl
theorem splice_twoP {α:Type} (L xs ys:List α) (h:L.length=xs.length+ys.length):splice (splice L 0 xs) xs.length ys=xs++ys:=by
 unfold splice
 simp only[List.take_zero,List.nil_append,Nat.zero_add]
 rw[List.take_append_of_le_length (by omega),List.take_length,List.drop_of_length_le (by simp;omega),List.append_nil]
theorem row_readsP {w:World} {G n:Nat} {t:TypeId} {xs:List Value} (h:w.heap[G]? = some (.cells xs.toArray t (0,0))) (hl:xs.length=n) (hm:n<=1000000):Reads w (.slice (some ⟨G,0,none⟩) n n) n xs:=by
 refine⟨hl,_,n,rfl,Nat.le_refl _,by unfold maxLen;omega,fun _=>⟨G,0,rfl,fun j u hu=>?_⟩⟩
 rw[cell_of_row _ _ _ _ _ _ h]
 simpa using hu
theorem srcP {w:World} {ao:Option Addr} {n cap:Nat} {bs:List UInt8} (h:Reads w (.slice ao n cap) n (bs.map U)) {k:Nat} (hk:0<(bs.take k).length):∃ad,ao=some ad /\ ∀j v,((bs.take k).map U)[j]? = some v->w.cell? (ad.add j)=some v:=by
 obtain⟨hl,ao',cap',e,h3,h4,h5⟩:=h
 injection e with e1 e2 e3
 subst e1 e3
 rw[List.length_map] at hl
 rw[List.length_take] at hk
 obtain⟨b,off,rfl,hc⟩:=h5 (by omega)
 refine⟨_,rfl,fun j v hv=>?_⟩
 rw[addP]
 rw[List.map_take,List.getElem?_take] at hv
 split at hv
 . exact hc _ _ hv
 . cases hv
def WriteEnd (w:World) (z:SPipe × Nat × Int) (e:Ending) (w':World):Prop:=
 ∃ar cr,e=.returned (.tuple #[pipeV z.1 ar cr,.int .i64 (z.2.1:Int),.int .i64 z.2.2])/\PB w w' ar cr z.1.b/\Below w.heap.size w w'
theorem writeEnd_err {w w':World} {e:Ending} {r:Int} (he:e=.returned (.tuple #[.agg #[.slice none 0 0,.int .i64 0,.bool false,.bool false],.int .i64 0,.int .i64 r])) (hb:Below w.heap.size w w'):WriteEnd w (zeroP,0,r) e w':=
 ⟨none,0,he,PB.none _ _,hb⟩
theorem pwrite_bad {p:SPipe} {cs:List UInt8} (h:pckO p.b.length p.room p.closed p.shut≠0):pwrite p cs=(zeroP,0,pckO p.b.length p.room p.closed p.shut):=by
 rw[pckO_of] at h ⊢
 unfold pwrite
 by_cases h1:pchk p=0
 . by_cases h2:p.closed=true
   . simp[h1,h2]
   . simp[h1,h2] at h
 . simp[h1]
theorem pwrite_shut {p:SPipe} {cs:List UInt8} (h:pckO p.b.length p.room p.closed p.shut=0) (hs:p.shut=true):pwrite p cs=(⟨[],p.room,p.closed,p.shut⟩,cs.length,0):=by
 obtain⟨h1,h2⟩:=pckO_ok h
 unfold pwrite
 rw[if_neg (fun e=>e h1),if_neg (by rw[h2];simp),if_pos hs]
theorem pwrite_ok {p:SPipe} {cs:List UInt8} (h:pckO p.b.length p.room p.closed p.shut=0) (hs:p.shut=false):pwrite p cs=(⟨p.b++cs.take (pfit cs.length p.b.length p.room),p.room,p.closed,p.shut⟩,pfit cs.length p.b.length p.room,0):=by
 obtain⟨h1,h2⟩:=pckO_ok h
 unfold pwrite
 rw[if_neg (fun e=>e h1),if_neg (by rw[h2];simp),if_neg (by rw[hs];simp)]
theorem write_is (ab ac:Option Addr) (cap cc:Nat) (p:SPipe) (cs:List UInt8) (w:World) (hr:Reads w (.slice ab p.b.length cap) p.b.length (p.b.map U)) (hrc:Reads w (.slice ac cs.length cc) cs.length (cs.map U)) :
 Calls Tryz.prog 166 #[pipeV p ab cap,.slice ac cs.length cc] w fun e w'=>WriteEnd w (pwrite p cs) e w':=by
 obtain⟨i0,hi,hi0,hi1,hi2⟩:=info_parts infoU8P
 obtain⟨bs,room,cl,sh⟩:=p
 have hn:=(reads_leP hr).1
 have hm:=(reads_leP hrc).1
 have HR:Hid (Reads w (.slice ab bs.length cap) bs.length (bs.map U)):=hr
 have HRC:Hid (Reads w (.slice ac cs.length cc) cs.length (cs.map U)):=hrc
 have HO:Hid _:=fun (W:World)=>checkOpen_is ab bs.length cap room cl sh W hn
 have HI:Hid _:=fun (W:World)=>limit_is ab bs.length cap room cl sh W
 have HB:Hid _:=fun h=>pwrite_bad (p:=⟨bs,room,cl,sh⟩) (cs:=cs) h
 have HG:Hid _:=fun h=>pwrite_shut (p:=⟨bs,room,cl,sh⟩) (cs:=cs) h
 have HK:Hid _:=fun h=>pwrite_ok (p:=⟨bs,room,cl,sh⟩) (cs:=cs) h
 have HL:Hid (pckO bs.length room cl sh=0->bs.length<=plim room/\plim room<=40000):=(show pckO bs.length room cl sh=0->bs.length<=plim room/\plim room<=40000 from fun h=>by
  obtain⟨h1,h2⟩:=pckO_ok (p:=⟨bs,room,cl,sh⟩) h
  obtain⟨_,g2,g3,_⟩:=pck_ok h1
  exact⟨g3,plim_le g2⟩)
 have HF:Hid ((bs.length:Int)<=plim room->(pfit cs.length bs.length room:Int)=if (cs.length:Int)<=plim room-bs.length then (cs.length:Int) else plim room-bs.length):=(show (bs.length:Int)<=plim room->(pfit cs.length bs.length room:Int)=if (cs.length:Int)<=plim room-bs.length then (cs.length:Int) else plim room-bs.length from fun h=>pfit_int h)
 unfold pipeV
 generalize hZ:pwrite ⟨bs,room,cl,sh⟩ cs=Z at *
 simp only at HB HG HK hn ⊢
 obtain⟨q,hq⟩:∃q,q=pfit cs.length bs.length room:=⟨_,rfl⟩
 obtain⟨L,hL⟩:∃L,L=pckO bs.length room cl sh:=⟨_,rfl⟩
 obtain⟨R,hR⟩:∃R,R=plim room:=⟨_,rfl⟩
 rw[<- hL] at HO HB HG HK HL
 rw[<- hR] at HI HL HF
 rw[<- hq] at HK HF
 obtain⟨N,hN⟩:∃N,N=bs.length:=⟨_,rfl⟩
 have HN:Hid (N=bs.length):=hN
 rw[<- hN] at HO HL HR HI HF hn ⊢
 obtain⟨M,hM⟩:∃M,M=cs.length:=⟨_,rfl⟩
 have HM:Hid (M=cs.length):=hM
 rw[<- hM] at HRC HF HG hm ⊢
 clear hL hZ hr hN hq hR hrc hM
 go_enter Tryz.func166,Tryz.ntmps166
 go_wp2_with fail
 refine (HO.out _).mono ?_
 rintro e w1 ⟨rfl,hb1⟩
 obtain⟨x1,x2⟩:=box44P hb1
 have X1:Hid _:=x1
 have X2:Hid _:=x2
 obtain⟨c0,c1,c2,c3⟩:=cells4P x1
 have HB1:Hid (Below w.heap.size w w1):=boxr2P.trans (hb1.mono boxr2P.size)
 have hs:w.heap.size+1<w1.heap.size:=by have:=hb1.size;simp at this;omega
 clear hb1 HO x1 x2
 by_cases h0:L=0
 .
  obtain⟨hl1,hl2⟩:=HL.out h0
  cases sh with
  | true=>
   obtain rfl:=HG.out h0 rfl
   obtain⟨d0,d1,d2,d3⟩:=cells4P X2.out
   obtain⟨f0,f1,f2,f3⟩:=frz4P X1.out
   obtain⟨g0,g1,g2,g3⟩:=frz4P X2.out
   clear HK HB HL HG X1 X2 HF HI
   subst h0
   go_wp2_with fail
   (try simp only[Exit.inBlock,Exit.then])
   refine bodyPost_ret (v:=.tuple #[.agg #[.slice none 0 0,.int .i64 room,.bool cl,.bool true],.int .i64 (M:Int),.int .i64 0]) ?_ rfl ⟨none,0,rfl,PB.none _ _,?_⟩
   . rw[results_cell_tmp2P rfl]
     go_simp
   . repeat (first | refine Below.setCell ?_ (by simp) _ | exact HB1.out)
  | false=>
   have HZ:Hid _:=HK.out h0 rfl
   have hf:=HF.out hl1
   clear HK HB HL HG HF
   subst h0
   have k0:=fun d os=>cell_regrown c0 d os
   have k1:=fun d os=>cell_regrown c1 d os
   have k2:=fun d os=>cell_regrown c2 d os
   have k3:=fun d os=>cell_regrown c3 d os
   have cF:∀d os,Calls Tryz.prog 102 #[.agg #[.slice ab N cap,.int .i64 room,.bool cl,.bool false]] (Go.Sort.grow (redrawn w1 d) os) fun e w''=>e=.returned (.int .i64 R) /\ ∃p:Regrown,w''=Go.Sort.grow (redrawn w1 p.d) p.os:=fun d os=>Calls.regrown_of (HI.out _)
   go_upto_region 7 with fail
   refine wp_region_quiet_below (by kernel_rfl) (by kernel_rfl) ?_
   repeat (first | go_big_quiet_step (exact cF _ _) | quiet_step (exact cF _ _))
   refine wpQuiet_nil ?_
   intro _ hw'
   obtain⟨⟨dq,osq⟩,hw''⟩:=hw'
   subst hw''
   have heq:(if R-(N:Int)<(M:Int) then R-(N:Int) else (M:Int))=(q:Int):=by
    rw[hf]
    split <;> split <;> omega
   have hqM:q<=M:=by
    have:(q:Int)<=M:=by rw[hf];split <;> omega
    omega
   have hq4:N+q<=40000:=by
    have:(q:Int)<=R-N:=by rw[hf];split <;> omega
    omega
   rw[heq]
   have HB3:Hid (Below w.heap.size w (Go.Sort.grow (redrawn w1 dq) osq)):=HB1.out.trans ((below_regrown w1 dq osq).mono HB1.out.size)
   have X1':Hid _:=((below_regrown w1 dq osq).block _ (by omega)).trans X1.out
   have X2':Hid _:=((below_regrown w1 dq osq).block _ (by omega)).trans X2.out
   have hs3:=(below_regrown w1 dq osq).size
   clear cF k0 k1 k2 k3 HB1 X1 X2 c0 c1 c2 c3 heq hf HI
   generalize (Go.Sort.grow (redrawn w1 dq) osq)=w3 at *
   obtain⟨c0,c1,c2,c3⟩:=cells4P X1'.out
   have hs4:w.heap.size+1<w3.heap.size:=by omega
   clear hs hs3 hl1 hl2
   have hb2:i0.bytes*(N+q)<=281474976710656:=by rw[hi2];omega
   have hb3:N+q<=maxLen:=by unfold maxLen;omega
   have HS1:Hid (∀W,Below w.heap.size w W->0<((bs.take N).map U).length -> ∃ad,ab=some ad /\ ∀j v,((bs.take N).map U)[j]? = some v->W.cell? (ad.add j)=some v):=(show ∀W,Below w.heap.size w W->0<((bs.take N).map U).length -> ∃ad,ab=some ad /\ ∀j v,((bs.take N).map U)[j]? = some v->W.cell? (ad.add j)=some v from fun W hW h=>srcP (Reads.below HR.out hW) (by simpa using h))
   have HS2:Hid (∀W,Below w.heap.size w W->0<((cs.take q).map U).length -> ∃ad,ac=some ad /\ ∀j v,((cs.take q).map U)[j]? = some v->W.cell? (ad.add j)=some v):=(show ∀W,Below w.heap.size w W->0<((cs.take q).map U).length -> ∃ad,ac=some ad /\ ∀j v,((cs.take q).map U)[j]? = some v->W.cell? (ad.add j)=some v from fun W hW h=>srcP (Reads.below HRC.out hW) (by simpa using h))
   have hbs:bs.take N=bs:=by rw[HN.out,List.take_length]
   rw[hbs] at HS1
   obtain⟨X1,hX1⟩:∃X,X=bs.map U:=⟨_,rfl⟩
   obtain⟨X2,hX2⟩:∃X,X=(cs.take q).map U:=⟨_,rfl⟩
   have HX1:Hid (X1=bs.map U):=hX1
   have HX2:Hid (X2=(cs.take q).map U):=hX2
   have HX1L:Hid (X1.length=N):=(show _=_ by rw[hX1,List.length_map,HN.out])
   have HX2L:Hid (X2.length=q):=(show _=_ by rw[hX2,List.length_map,List.length_take,<- HM.out];omega)
   rw[<- hX1] at HS1
   rw[<- hX2] at HS2
   obtain⟨NQ,hNQ⟩:∃NQ,NQ=N+q:=⟨_,rfl⟩
   have HPB:Hid (∀W,W.heap[w3.heap.size]? = some (.cells (X1++X2).toArray 5 (0,0))->PB w3 W (some ⟨w3.heap.size,0,none⟩) NQ (bs++cs.take q)):=(show ∀W,W.heap[w3.heap.size]? = some (.cells (X1++X2).toArray 5 (0,0))->PB w3 W (some ⟨w3.heap.size,0,none⟩) NQ (bs++cs.take q) from fun W hW=>by
    have hl:(bs++cs.take q).length=NQ:=by rw[List.length_append,List.length_take,<- HN.out,<- HM.out];omega
    refine⟨?_,(fun a ha=>by injection ha with ha;subst ha;exact Nat.le_refl _),fun h=>by cases h⟩
    rw[hl]
    have:=row_readsP hW (n:=NQ) (by rw[List.length_append,HX1L.out,HX2L.out,hNQ]) (by omega)
    rw[hX1,hX2,<- List.map_append] at this
    exact this)
   clear hX1 hX2 HR HRC hbs
   go_wp2_with (at_make;refine wpList_make_full _ rfl (.tmp 35) (.tmp 35) 28 rfl w3.heap.size 5 i0 (.int .u8 0) 1 Tryz.underlying28 hi hi0 hi1 .i64 .i64 _ _ (N+q) rfl rfl (by simp) (by simp) hb2 hb3 (Nat.le_refl _) ?_)
   intro w4 hout hgrow4
   have HB4:Hid (Below w3.heap.size w3 w4):=grownP hgrow4 (Nat.le_refl _)
   obtain⟨L0,hL0⟩:∃L,L=(madeCells #[Value.int .u8 0] (N+q)).toList:=⟨_,rfl⟩
   have HL0:Hid (L0.length=NQ):=(show _=_ by rw[hL0,hNQ];simp[madeCells])
   have HR4:Hid (w4.heap[w3.heap.size]? = some (.cells L0.toArray 5 (0,0))):=(show _=_ by rw[hL0];exact row_ownsP hout)
   clear hout hgrow4 hL0 c0 c1 c2 c3
   obtain⟨c0,c1,c2,c3⟩:=cells4P ((HB4.out.block _ (by omega)).trans X1'.out)
   have HNQ:Hid (NQ=N+q):=hNQ
   have hNQ4:N<=NQ:=by omega
   have hNQ5:NQ<=40000:=by omega
   rw[<- hNQ]
   clear hNQ hb2 hb3
   go_wp2_with (refine wpList_copy_splice rfl (.tmp 37) (.tmp 39) 28 28 rfl 5 Tryz.underlying28 sizeU8P (some ⟨w3.heap.size,0,none⟩) ab NQ NQ N cap rfl rfl w3.heap.size 0 L0 5 HR4.out X1 ?c1 ?c2 ?c3 ?c4 w3.heap.size w3 HB4.out (Nat.le_refl _) ?_)
   case c1=>rw[HX1L.out];exact (Nat.min_eq_left (by omega)).symm
   case c2=>first | exact fun h=>⟨rfl,HS1.out w4 (HB3.out.trans (HB4.out.mono HB3.out.size)) h⟩ | exact fun h=>HS1.out w4 (HB3.out.trans (HB4.out.mono HB3.out.size)) h
   case c3=>rw[HX1L.out,HL0.out];omega
   case c4=>rw[HX1.out];exact U_oneP
   intro w5 hr5 hb5
   obtain⟨L1,hL1⟩:∃L,L=splice L0 0 X1:=⟨_,rfl⟩
   have HR5:Hid (w5.heap[w3.heap.size]? = some (.cells L1.toArray 5 (0,0))):=(show _=_ by rw[hL1];exact hr5.out)
   have HB5:Hid (Below w3.heap.size w3 w5):=hb5
   have HL1:Hid (L1.length=NQ):=(show _=_ by rw[hL1,length_splice _ _ _ (by rw[HX1L.out,HL0.out];omega),HL0.out])
   have HSP:Hid (splice L1 N X2=X1++X2):=(show _=_ by
    rw[hL1]
    have:=splice_twoP L0 X1 X2 (by rw[HL0.out,HX1L.out,HX2L.out,HNQ.out])
    rw[HX1L.out] at this
    exact this)
   have HBB5:Hid (Below w.heap.size w w5):=HB3.out.trans (hb5.mono HB3.out.size)
   clear hr5 hb5 hL1 HB4 HR4 HS1 c0 c1 c2 c3
   obtain⟨c0,c1,c2,c3⟩:=cells4P ((HB5.out.block _ (by omega)).trans X1'.out)
   by_cases hq0:NQ=N
   .
    have hqz:q=0:=by have:=HNQ.out;omega
    subst hq0
    go_wp2_with (refine wpList_copy_splice rfl (.tmp 45) (.tmp 46) 28 28 rfl 5 Tryz.underlying28 sizeU8P (some ⟨w3.heap.size,0,none⟩) ac 0 0 M cc rfl rfl w3.heap.size NQ L1 5 HR5.out X2 ?c1 ?c2 ?c3 ?c4 w3.heap.size w3 HB5.out (Nat.le_refl _) ?_)
    case c1=>rw[HX2L.out];first | (rw[hqz];exact (Nat.min_eq_right (Nat.zero_le _)).symm) | (rw[Nat.min_eq_right (Nat.zero_le _)])
    case c2=>first | exact fun h=>absurd h (by rw[HX2L.out,hqz];exact Nat.lt_irrefl 0) | exact fun h=>⟨rfl,HS2.out w5 HBB5.out h⟩ | exact fun h=>HS2.out w5 HBB5.out h | exact fun h=>absurd h (by rw[HX2L.out];exact Nat.lt_irrefl 0)
    case c3=>rw[HX2L.out,HL1.out];have:=HNQ.out;omega
    case c4=>rw[HX2.out];exact U_oneP
    intro w6 hr6 hb6
    have HR6:Hid (w6.heap[w3.heap.size]? = some (.cells (X1++X2).toArray 5 (0,0))):=(show _=_ by rw[hr6.out,HSP.out])
    have HB6:Hid (Below w3.heap.size w3 w6):=hb6
    clear hr6 hb6 HS2 HR5
    clear c0 c1 c2 c3
    obtain⟨c0,c1,c2,c3⟩:=cells4P ((HB6.out.block _ (by omega)).trans X1'.out)
    obtain⟨d0,d1,d2,d3⟩:=cells4P ((HB6.out.block _ (by omega)).trans X2'.out)
    obtain⟨f0,f1,f2,f3⟩:=frz4P ((HB6.out.block _ (by omega)).trans X1'.out)
    obtain⟨g0,g1,g2,g3⟩:=frz4P ((HB6.out.block _ (by omega)).trans X2'.out)
    clear X1' X2'
    go_wp2_with fail
    (try simp only[Exit.inBlock,Exit.then])
    refine bodyPost_ret (v:=.tuple #[.agg #[.slice (some ⟨w3.heap.size,0,none⟩) NQ NQ,.int .i64 room,.bool cl,.bool false],.int .i64 ((q:Nat):Int),.int .i64 0]) ?_ rfl ?_
    . rw[results_cell_tmp2P rfl]
      go_simp
    .
     rw[HZ.out]
     have hlen:(bs++List.take q cs).length=NQ:=by
      rw[List.length_append,List.length_take,<- HN.out,<- HM.out]
      have:=HNQ.out
      omega
     refine⟨some ⟨w3.heap.size,0,none⟩,NQ,?_,?_,?_⟩
     . unfold pipeV
       simp only
       rw[hlen]
     . refine PB.fromP (w1:=w3) ?_ HB3.out.size
       repeat (first | refine PB.setP ?_ (by omega) _ | exact HPB.out w6 HR6.out)
     . have hbw:Below w.heap.size w w6:=HB3.out.trans (HB6.out.mono HB3.out.size)
       repeat (first | refine Below.setCell ?_ (by simp) _ | exact hbw)
   .
    go_wp2_with (refine wpList_copy_splice rfl (.tmp 45) (.tmp 46) 28 28 rfl 5 Tryz.underlying28 sizeU8P (some ⟨w3.heap.size,N,none⟩) ac (NQ-N) (NQ-N) M cc rfl rfl w3.heap.size N L1 5 HR5.out X2 ?c1 ?c2 ?c3 ?c4 w3.heap.size w3 HB5.out (Nat.le_refl _) ?_)
    case c1=>rw[HX2L.out];first | (have:=HNQ.out;show q=min M (NQ-N);omega) | (rw[Nat.min_eq_right (Nat.zero_le _)])
    case c2=>first | exact fun h=>⟨rfl,HS2.out w5 HBB5.out h⟩ | exact fun h=>HS2.out w5 HBB5.out h | exact fun h=>absurd h (by rw[HX2L.out];exact Nat.lt_irrefl 0)
    case c3=>rw[HX2L.out,HL1.out];have:=HNQ.out;omega
    case c4=>rw[HX2.out];exact U_oneP
    intro w6 hr6 hb6
    have HR6:Hid (w6.heap[w3.heap.size]? = some (.cells (X1++X2).toArray 5 (0,0))):=(show _=_ by rw[hr6.out,HSP.out])
    have HB6:Hid (Below w3.heap.size w3 w6):=hb6
    clear hr6 hb6 HS2 HR5
    clear c0 c1 c2 c3
    obtain⟨c0,c1,c2,c3⟩:=cells4P ((HB6.out.block _ (by omega)).trans X1'.out)
    obtain⟨d0,d1,d2,d3⟩:=cells4P ((HB6.out.block _ (by omega)).trans X2'.out)
    obtain⟨f0,f1,f2,f3⟩:=frz4P ((HB6.out.block _ (by omega)).trans X1'.out)
    obtain⟨g0,g1,g2,g3⟩:=frz4P ((HB6.out.block _ (by omega)).trans X2'.out)
    clear X1' X2'
    go_wp2_with fail
    (try simp only[Exit.inBlock,Exit.then])
    refine bodyPost_ret (v:=.tuple #[.agg #[.slice (some ⟨w3.heap.size,0,none⟩) NQ NQ,.int .i64 room,.bool cl,.bool false],.int .i64 ((q:Nat):Int),.int .i64 0]) ?_ rfl ?_
    . rw[results_cell_tmp2P rfl]
      go_simp
    .
     rw[HZ.out]
     have hlen:(bs++List.take q cs).length=NQ:=by
      rw[List.length_append,List.length_take,<- HN.out,<- HM.out]
      have:=HNQ.out
      omega
     refine⟨some ⟨w3.heap.size,0,none⟩,NQ,?_,?_,?_⟩
     . unfold pipeV
       simp only
       rw[hlen]
     . refine PB.fromP (w1:=w3) ?_ HB3.out.size
       repeat (first | refine PB.setP ?_ (by omega) _ | exact HPB.out w6 HR6.out)
     . have hbw:Below w.heap.size w w6:=HB3.out.trans (HB6.out.mono HB3.out.size)
       repeat (first | refine Below.setCell ?_ (by simp) _ | exact hbw)
 .
  obtain rfl:=HB.out h0
  obtain⟨d0,d1,d2,d3⟩:=cells4P X2.out
  obtain⟨g0,g1,g2,g3⟩:=frz4P X2.out
  clear HK HB HL HG X1 X2 HF HI
  go_wp2_with fail
  (try simp only[Exit.inBlock,Exit.then])
  refine bodyPost_ret (v:=.tuple #[.agg #[.slice none 0 0,.int .i64 0,.bool false,.bool false],.int .i64 0,.int .i64 L]) ?_ rfl (writeEnd_err rfl ?_)
  . rw[results_cell_tmp2P rfl]
    go_simp
  . repeat (first | refine Below.setCell ?_ (by simp) _ | exact HB1.out)
end Go.Proofs.YtllgglolcgdehaaGreatDoor
