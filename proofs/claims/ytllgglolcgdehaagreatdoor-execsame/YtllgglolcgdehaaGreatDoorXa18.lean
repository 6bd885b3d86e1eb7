/- What the developers' checkUsed, checkNode and hasPort do, and more. -/
import Derived.Test.YtllgglolcgdehaaGreatDoorXa17
import Derived.Test.YtllgglolcgdehaaGreatDoorXa13
set_option maxRecDepth 100000
set_option maxHeartbeats 16000000
namespace Go.Proofs.YtllgglolcgdehaaGreatDoor
open Go.RowKit Go.Gs
set_option linter.unusedVariables false
theorem used_word {n:SNode} (h:n.kind=1\/n.kind=5):nodeUsed n=if isWord n.file then 0 else 1:=by unfold nodeUsed;rw[if_pos h]
theorem used_wide {n:SNode} (h:n.kind=2):nodeUsed n=if n.wide<1\/5<n.wide then 3 else 0:=by unfold nodeUsed;rw[if_neg (by omega),if_pos h]
theorem used_work {n:SNode} (h:n.kind=3):nodeUsed n=chk n.c:=by unfold nodeUsed;rw[if_neg (by omega),if_neg (by omega),if_pos h]
theorem used_join {n:SNode} (h:n.kind=4):nodeUsed n=jchk n.how n.c:=by unfold nodeUsed;rw[if_neg (by omega),if_neg (by omega),if_neg (by omega),if_pos h]
theorem used_none {n:SNode} (h1:n.kind≠1) (h2:n.kind≠2) (h3:n.kind≠3) (h4:n.kind≠4) (h5:n.kind≠5):nodeUsed n=4:=by unfold nodeUsed;rw[if_neg (by omega),if_neg h2,if_neg h3,if_neg h4]
theorem checkUsed_is (n:SNode) (ai:Option Addr) (ni ci:Nat) (w:World) (hfit:FitsN n) :
 Calls Tryz.prog 191 #[nodeV n ai ni ci] w fun e w'=>e=.returned (.int .i64 (nodeUsed n))/\Below w.heap.size w w':=by
 have hword:=fun W=>word_is n.file W hfit.1
 have hcheck:=fun W=>check_is n.c W hfit.2.1
 have hjoin:=fun W=>jcheck_is n.how n.c W hfit.2.1
 unfold Cmd.v at hcheck hjoin
 obtain⟨u,hu⟩:∃u,u=nodeUsed n:=⟨_,rfl⟩
 rw[<- hu]
 by_cases h15:n.kind=1\/n.kind=5
 .
  rw[used_word h15] at hu
  unfold nodeV
  generalize isWord n.file=d at *
  generalize (⟨n.file.toArray⟩:ByteArray)=fx at *
  generalize (⟨n.c.word.toArray⟩:ByteArray)=wx at *
  generalize n.c.kind=ck at *
  generalize n.c.n=cn at *
  generalize n.how=hw at *
  generalize n.wide=wd at *
  generalize n.kind=k at *
  clear hcheck hjoin hfit
  rcases h15 with rfl | rfl
  .
   cases d with
   | true=>
    simp only[if_true] at hu
    subst hu
    go_enter Tryz.func191,Tryz.ntmps191
    go_wp2_with fail
    refine (hword _).mono ?_
    rintro e w1 ⟨rfl,rfl⟩
    go_wp2_with fail
    go_ret
    exact⟨rfl,box_of⟩
   | false=>
    simp only[Bool.false_eq_true,if_false] at hu
    subst hu
    go_enter Tryz.func191,Tryz.ntmps191
    go_wp2_with fail
    refine (hword _).mono ?_
    rintro e w1 ⟨rfl,rfl⟩
    go_wp2_with fail
    go_ret
    exact⟨rfl,box_of⟩
  .
   cases d with
   | true=>
    simp only[if_true] at hu
    subst hu
    go_enter Tryz.func191,Tryz.ntmps191
    go_wp2_with fail
    refine (hword _).mono ?_
    rintro e w1 ⟨rfl,rfl⟩
    go_wp2_with fail
    go_ret
    exact⟨rfl,box_of⟩
   | false=>
    simp only[Bool.false_eq_true,if_false] at hu
    subst hu
    go_enter Tryz.func191,Tryz.ntmps191
    go_wp2_with fail
    refine (hword _).mono ?_
    rintro e w1 ⟨rfl,rfl⟩
    go_wp2_with fail
    go_ret
    exact⟨rfl,box_of⟩
 .
  by_cases h2:n.kind=2
  .
   rw[used_wide h2] at hu
   unfold nodeV
   rw[h2]
   generalize (⟨n.file.toArray⟩:ByteArray)=fx at *
   generalize (⟨n.c.word.toArray⟩:ByteArray)=wx at *
   generalize n.c.kind=ck at *
   generalize n.c.n=cn at *
   generalize n.how=hw at *
   generalize n.wide=wd at *
   clear hcheck hjoin hword hfit h15 h2
   by_cases g1:wd<1
   . rw[if_pos (.inl g1)] at hu
     subst hu
     go_enter Tryz.func191,Tryz.ntmps191
     go_wp2_with fail
     go_ret
     exact⟨rfl,box_of⟩
   .
    by_cases g5:5<wd
    . rw[if_pos (.inr g5)] at hu
      subst hu
      go_enter Tryz.func191,Tryz.ntmps191
      go_wp2_with fail
      go_ret
      exact⟨rfl,box_of⟩
    . rw[if_neg (by omega)] at hu
      subst hu
      go_enter Tryz.func191,Tryz.ntmps191
      go_wp2_with fail
      go_ret
      exact⟨rfl,box_of⟩
  .
   by_cases h3:n.kind=3
   .
    rw[used_work h3] at hu
    rw[<- hu] at hcheck
    unfold nodeV
    rw[h3]
    generalize (⟨n.file.toArray⟩:ByteArray)=fx at *
    generalize (⟨n.c.word.toArray⟩:ByteArray)=wx at *
    generalize n.c.kind=ck at *
    generalize n.c.n=cn at *
    generalize n.how=hw at *
    generalize n.wide=wd at *
    clear hjoin hword hfit h15 h2 h3 hu
    go_enter Tryz.func191,Tryz.ntmps191
    go_wp2_with fail
    refine (hcheck _).mono ?_
    rintro e w1 ⟨rfl,hb1⟩
    have HB:Hid (Below w.heap.size w w1):=box_of.trans (hb1.mono (by simp))
    clear hb1 hcheck
    go_wp2_with fail
    go_ret
    exact⟨rfl,HB.out⟩
   .
    by_cases h4:n.kind=4
    .
     rw[used_join h4] at hu
     rw[<- hu] at hjoin
     unfold nodeV
     rw[h4]
     generalize (⟨n.file.toArray⟩:ByteArray)=fx at *
     generalize (⟨n.c.word.toArray⟩:ByteArray)=wx at *
     generalize n.c.kind=ck at *
     generalize n.c.n=cn at *
     generalize n.how=hw at *
     generalize n.wide=wd at *
     clear hcheck hword hfit h15 h2 h3 h4 hu
     go_enter Tryz.func191,Tryz.ntmps191
     go_wp2_with fail
     refine (hjoin _).mono ?_
     rintro e w1 ⟨rfl,hb1⟩
     have HB:Hid (Below w.heap.size w w1):=box_of.trans (hb1.mono (by simp))
     clear hb1 hjoin
     go_wp2_with fail
     go_ret
     exact⟨rfl,HB.out⟩
    .
     rw[used_none (by omega) h2 h3 h4 (by omega)] at hu
     subst hu
     unfold nodeV
     generalize (⟨n.file.toArray⟩:ByteArray)=fx at *
     generalize (⟨n.c.word.toArray⟩:ByteArray)=wx at *
     generalize n.c.kind=ck at *
     generalize n.c.n=cn at *
     generalize n.how=hw at *
     generalize n.wide=wd at *
     generalize n.kind=k at *
     have e1:(k == 1)=false:=by simp;omega
     have e2:(k == 2)=false:=by simp;omega
     have e3:(k == 3)=false:=by simp;omega
     have e4:(k == 4)=false:=by simp;omega
     have e5:(k == 5)=false:=by simp;omega
     clear hcheck hword hfit hjoin
     go_enter Tryz.func191,Tryz.ntmps191
     go_wp2_with fail
     go_ret
     exact⟨rfl,box_of⟩
theorem nbox_cells {w w':World} {a b c d e f g h:Value} {t:TypeId} (hb:Below (w.alloc (.cells #[a,b,c,d,e,f,g,h] t)).heap.size (w.alloc (.cells #[a,b,c,d,e,f,g,h] t)) w') :
 w'.cell? ⟨w.heap.size,0,none⟩=some a/\w'.cell? ⟨w.heap.size,1,none⟩=some b/\w'.cell? ⟨w.heap.size,2,none⟩=some c/\w'.cell? ⟨w.heap.size,3,none⟩=some d/\w'.cell? ⟨w.heap.size,4,none⟩=some e/\w'.cell? ⟨w.heap.size,5,none⟩=some f/\w'.cell? ⟨w.heap.size,6,none⟩=some g/\w'.cell? ⟨w.heap.size,7,none⟩=some h:=by
 refine⟨?_,?_,?_,?_,?_,?_,?_,?_⟩
 all_goals
  rw[hb.cell (by simp),cell_of_row _ _ _ _ _ _ (heap_alloc_new w _)]
  rfl
theorem nodeChk_used {n:SNode} (h:nodeUsed n≠0):nodeChk n=nodeUsed n:=by unfold nodeChk;rw[if_pos h]
theorem nodeChk_form {n:SNode} (h:nodeUsed n=0):nodeChk n=if (!mayHave n.kind n.ins.length || hasUnused n)=true then 4 else 0:=by unfold nodeChk;rw[if_neg (by simp[h])]
theorem checkNode_is (n:SNode) (ai:Option Addr) (ci:Nat) (w:World) (hfit:FitsN n) (hl:n.ins.length<=9223372036854775807) :
 Calls Tryz.prog 144 #[nodeV n ai n.ins.length ci] w fun e w'=>e=.returned (.int .i64 (nodeChk n))/\Below w.heap.size w w':=by
 have HU:Hid _:=fun W=>checkUsed_is n ai n.ins.length ci W hfit
 have HM:Hid _:=fun W=>mayHave_is n.kind n.ins.length W hl
 have HH:Hid _:=fun W=>hasUnused_is n ai n.ins.length ci W
 obtain⟨r,hr⟩:∃r,r=nodeChk n:=⟨_,rfl⟩
 rw[<- hr]
 have HR:Hid (r=nodeChk n):=hr
 obtain⟨u,hu⟩:∃u,u=nodeUsed n:=⟨_,rfl⟩
 have HUU:Hid (u=nodeUsed n):=hu
 have HF:Hid _:=@nodeChk_form n
 have HG:Hid _:=@nodeChk_used n
 rw[<- hu] at HU HF HG
 unfold nodeV at HU HH ⊢
 generalize mayHave n.kind n.ins.length=mh at *
 generalize hasUnused n=hu2 at *
 generalize (⟨n.file.toArray⟩:ByteArray)=fx at *
 generalize (⟨n.c.word.toArray⟩:ByteArray)=wx at *
 generalize n.c.kind=ck at *
 generalize n.c.n=cn at *
 generalize n.how=hw at *
 generalize n.wide=wd at *
 generalize n.kind=k at *
 generalize n.ins.length=ni at *
 clear hr hu hfit
 go_enter Tryz.func144,Tryz.ntmps144
 go_wp2_with fail
 refine (HU.out _).mono ?_
 rintro e w1 ⟨rfl,hb1⟩
 obtain⟨x0,x1,x2,x3,x4,x5,x6,x7⟩:=nbox_cells hb1
 have HB1:Hid (Below w.heap.size w w1):=box_of.trans (hb1.mono (by simp))
 clear hb1 HU
 by_cases hu0:u=0
 .
  subst hu0
  have HE:=HF.out rfl
  go_wp2_with fail
  refine (HM.out _).mono ?_
  rintro e w2 ⟨rfl,rfl⟩
  cases mh with
  | false=>
   have hr4:r=4:=by rw[HR.out,HE];rfl
   subst hr4
   clear HE HF HG HM HH
   go_wp2_with fail
   go_ret
   exact⟨rfl,HB1.out⟩
  | true=>
   have HE2:Hid _:=HE
   clear HE HM HF HG
   go_wp2_with fail
   refine (HH.out _).mono ?_
   rintro e w3 ⟨rfl,hb3⟩
   have HB3:Hid (Below w.heap.size w w3):=HB1.out.trans (hb3.mono HB1.out.size)
   clear hb3 HH
   cases hu2 with
   | true=>
    have hr4:r=4:=by rw[HR.out,HE2.out];rfl
    subst hr4
    clear HE2
    go_wp2_with fail
    go_ret
    exact⟨rfl,HB3.out⟩
   | false=>
    have hr4:r=0:=by rw[HR.out,HE2.out];rfl
    subst hr4
    clear HE2
    go_wp2_with fail
    go_ret
    exact⟨rfl,HB3.out⟩
 .
  have hru:r=u:=by rw[HR.out,HG.out hu0]
  subst hru
  clear HF HG HM HH HUU HR
  go_wp2_with fail
  go_ret
  exact⟨rfl,HB1.out⟩
theorem below_drewG (n k:Nat) (w:World):Below n w (w.drewN k):=by
 induction k with
 | zero=>exact Below.refl _ _
 | succ k ih=>exact ih.drew
theorem pbox_cells {w w':World} {a b:Value} {t:TypeId} (hb:Below (w.alloc (.cells #[a,b] t)).heap.size (w.alloc (.cells #[a,b] t)) w'):w'.cell? ⟨w.heap.size,0,none⟩=some a/\w'.cell? ⟨w.heap.size,1,none⟩=some b:=by
 refine⟨?_,?_⟩
 all_goals
  rw[hb.cell (by simp),cell_of_row _ _ _ _ _ _ (heap_alloc_new w _)]
  rfl
theorem portOk_neg {ns:List SNode} {p:Int × Int} (h:¬0<=p.1):portOk ns p=false:=by unfold portOk;rw[decide_eq_false h];rfl
theorem portOk_far {ns:List SNode} {p:Int × Int} (h:¬p.1<ns.length):portOk ns p=false:=by unfold portOk;rw[decide_eq_false h];simp
theorem portOk_out {ns:List SNode} {p:Int × Int} (h:¬0<=p.2):portOk ns p=false:=by unfold portOk;rw[decide_eq_false h];simp
theorem portOk_at {ns:List SNode} {i:Nat} {q:Int} {n:SNode} (hn:ns[i]? = some n) (h:0<=q):portOk ns ((i:Int),q)=decide (q<nouts n):=by
 have hi:i<ns.length:=(gSm hn).1
 unfold portOk
 simp only[Int.toNat_natCast,hn,Option.map_some,Option.getD_some]
 rw[decide_eq_true (by omega:(0:Int)<=(i:Int)),decide_eq_true (by omega:(i:Int)<(ns.length:Int)),decide_eq_true h]
 simp
theorem hasPort_is (ns:List SNode) (ao:Option Addr) (cap:Nat) (p q:Int) (w:World) (hr:RNodes w (.slice ao ns.length cap) ns) :
 Calls Tryz.prog 145 #[.slice ao ns.length cap,.agg #[.int .i64 p,.int .i64 q]] w fun e w'=>e=.returned (.bool (portOk ns (p,q)))/\Below w.heap.size w w':=by
 have hle:=rnodes_le hr
 have HR:Hid (RNodes w (.slice ao ns.length cap) ns):=hr
 obtain⟨N,hN⟩:∃N,N=ns.length:=⟨_,rfl⟩
 have HN:Hid (N=ns.length):=hN
 obtain⟨r,hrr⟩:∃r,r=portOk ns (p,q):=⟨_,rfl⟩
 have HRR:Hid (r=portOk ns (p,q)):=hrr
 rw[<- hN,<- hrr]
 rw[<- hN] at HR hle
 clear hr hN hrr
 by_cases h0:0<=p
 .
  by_cases hlt:p<N
  .
   by_cases hq:0<=q
   .
    obtain⟨i,rfl⟩:=Int.eq_ofNat_of_zero_le h0
    obtain⟨n,hn⟩:∃n,ns[i]? = some n:=⟨_,gEl (by have:=HN.out;omega)⟩
    obtain⟨b,off,ai,ci,rfl,⟨c0,c1,c2,c3,c4,c5,c6,c7⟩,_⟩:=HR.out.at hn
    have hrv:r=decide (q<nouts n):=by rw[HRR.out,portOk_at hn hq]
    have g0:decide ((0:Int)<=(i:Int))=true:=decide_eq_true h0
    have g1:decide ((i:Int)<(N:Int))=true:=decide_eq_true hlt
    have g2:decide (0<=q)=true:=decide_eq_true hq
    have cF:∀d os,Calls Tryz.prog 62 #[nodeV n ai n.ins.length ci] (Go.Sort.grow (redrawn (w.alloc (.cells #[.int .i64 (i:Int),.int .i64 q] 79)) d) os) fun e w''=>e=.returned (.int .i64 (nouts n)) /\ ∃p:Regrown,w''=Go.Sort.grow (redrawn (w.alloc (.cells #[.int .i64 (i:Int),.int .i64 q] 79)) p.d) p.os:=fun d os=>Calls.regrown_of (outs_is n ai n.ins.length ci _)
    have hbx:∀{a:Addr} {v:Value},w.cell? a=some v -> ∀d os,(Go.Sort.grow (redrawn (w.alloc (.cells #[.int .i64 (i:Int),.int .i64 q] 79)) d) os).cell? a=some v:=fun h d os=>cell_regrown ((box_of.cell (bLt w _ h)).trans h) d os
    have k0:=hbx c0
    have k1:=hbx c1
    have k2:=hbx c2
    have k3:=hbx c3
    have k4:=hbx c4
    have k5:=hbx c5
    have k6:=hbx c6
    have k7:=hbx c7
    obtain⟨y0,y1⟩:=pbox_cells (w:=w) (a:=.int .i64 (i:Int)) (b:=.int .i64 q) (t:=79) (Below.refl _ _)
    have z0:=fun d os=>cell_regrown y0 d os
    have z1:=fun d os=>cell_regrown y1 d os
    unfold nodeV at cF
    generalize nouts n=no at *
    generalize (⟨n.file.toArray⟩:ByteArray)=fx at *
    generalize (⟨n.c.word.toArray⟩:ByteArray)=wx at *
    generalize n.c.kind=ck at *
    generalize n.c.n=cn at *
    generalize n.how=hw at *
    generalize n.wide=wd at *
    generalize n.kind=k at *
    generalize n.ins.length=ni at *
    clear c0 c1 c2 c3 c4 c5 c6 c7 hbx HR HRR hn
    subst hrv
    go_enter Tryz.func145,Tryz.ntmps145
    go_wp2_with fail
    refine wp_region_quiet_below (by kernel_rfl) (by kernel_rfl) ?_
    repeat (first | go_big_quiet_step (exact cF _ _) | quiet_step (exact cF _ _))
    refine wpQuiet_nil ?_
    intro _ hw'
    obtain⟨⟨dq,osq⟩,hw''⟩:=hw'
    subst hw''
    clear cF k0 k1 k2 k3 k4 k5 k6 k7 z0 z1 y0 y1
    go_wp2_with fail
    go_ret
    exact⟨rfl,box_of.trans ((below_regrown _ dq osq).mono (by simp))⟩
   .
    have hrf:r=false:=by rw[HRR.out,portOk_out hq]
    subst hrf
    have g0:decide (0<=p)=true:=decide_eq_true h0
    have g1:decide (p<(N:Int))=true:=decide_eq_true hlt
    have g2:decide (0<=q)=false:=decide_eq_false hq
    clear HR HRR
    go_enter Tryz.func145,Tryz.ntmps145
    go_wp2_with fail
    go_quiet (fail)
    go_wp2_with fail
    go_ret
    exact⟨rfl,box_of.trans (below_drewG _ _ _)⟩
  .
   have hrf:r=false:=by rw[HRR.out,portOk_far (by rw[<- HN.out];exact hlt)]
   subst hrf
   have g0:decide (0<=p)=true:=decide_eq_true h0
   have g1:decide (p<(N:Int))=false:=decide_eq_false hlt
   clear HR HRR
   go_enter Tryz.func145,Tryz.ntmps145
   go_wp2_with fail
   go_quiet (fail)
   go_wp2_with fail
   go_ret
   exact⟨rfl,box_of.trans (below_drewG _ _ _)⟩
 .
  have hrf:r=false:=by rw[HRR.out,portOk_neg h0]
  subst hrf
  have g0:decide (0<=p)=false:=decide_eq_false h0
  clear HR HRR
  go_enter Tryz.func145,Tryz.ntmps145
  go_wp2_with fail
  go_quiet (fail)
  go_wp2_with fail
  go_ret
  exact⟨rfl,box_of.trans (below_drewG _ _ _)⟩
theorem grown_none {w w':World} (hb:Below w.heap.size w w'):w.grownBy w' none:=⟨hb.os,hb.tape,hb.output,hb.size,fun k hk _=>hb.block k hk⟩
theorem PortsAre.below {w w':World} {R:Value->Option (DataW Unit × List MemPlace)} {b n:Nat} {t:List (Int × Int)} (h:PortsAre w R b n t) (hb:Below w.heap.size w w'):PortsAre w' R b n t:=by
 obtain⟨D,h1,h2⟩:=h
 exact⟨D,h1.kept (grown_none hb) (by simp),h2⟩
theorem PortsAre.put {w w' W:World} {R:Value->Option (DataW Unit × List MemPlace)} {b n:Nat} {t:List (Int × Int)} {D d:DataW Unit} {p:Int × Int} (h1:w.ownsMap Tryz.prog 79 R b n D) (h2:∀p,WfP p->Go.Maps.has D (portK p)=decide (p∈t)) (h3:Go.Maps.size D=t.length) (h4:∀p∈t,WfP p)
 (hp:WfP p) (hn:p∉t) (ho:w'.ownsMap Tryz.prog 79 R b (n+1) (D.put (portK p) d)):PortsAre w' R b (n+1) (t++[p]):=by
 refine⟨_,ho,fun q hq=>?_,?_,?_⟩
 .
  by_cases e:q=p
  . subst e
    rw[Go.Maps.has_put_same h1.isMap (portK_key w q hq)]
    simp
  . rw[Go.Maps.has_put_other (fun h=>e (portK_inj w hq hp h)),h2 q hq]
    simp[e]
 . rw[Go.Maps.size_put (h1.tidy portKeyed),h2 p hp,decide_eq_false hn,h3]
   simp
 . intro q hq
   rcases List.mem_append.1 hq with hq | hq
   . exact h4 q hq
   . rw[List.mem_singleton.1 hq];exact hp
theorem ports_made (w:World) (o:Obj) (R:Value->Option (DataW Unit × List MemPlace)):PortsAre ((w.alloc o).alloc (.map #[] 0)) R (w.heap.size+1) 0 []:=by
 refine⟨.map [],?_,fun p _=>by simp[Go.Maps.has],by simp[Go.Maps.size],by simp⟩
 have:=World.ownsMap_made (w.alloc o) Tryz.prog 79 R
 simpa using this
theorem ins_below {w w1 w2:World} {o:Obj} (h:Below (w.heap.size+1) (w.alloc o) w1) (hg:w1.grownBy w2 (some (w.heap.size+1))):Below (w.heap.size+1) (w.alloc o) w2:=
 h.grown hg (by have:=h.size;simpa using this) (fun k hk=>by simp only[Option.some.injEq] at hk;omega)
theorem gbox_cell {w w':World} {a:Value} {t:TypeId} (hb:Below (w.heap.size+1) (w.alloc (.cells #[a] t)) w'):w'.cell? ⟨w.heap.size,0,none⟩=some a:=by
 rw[hb.cell (by simp),cell_of_row _ _ _ _ _ _ (heap_alloc_new w _)]
 rfl
def Cells8 (w:World) (b:Nat) (x0 x1 x2 x3 x4 x5 x6 x7:Value):Prop:=
 w.cell? ⟨b,0,none⟩=some x0/\w.cell? ⟨b,1,none⟩=some x1/\w.cell? ⟨b,2,none⟩=some x2/\w.cell? ⟨b,3,none⟩=some x3/\w.cell? ⟨b,4,none⟩=some x4/\w.cell? ⟨b,5,none⟩=some x5/\w.cell? ⟨b,6,none⟩=some x6/\w.cell? ⟨b,7,none⟩=some x7
theorem Cells8.grown {w w':World} {b:Nat} {x0 x1 x2 x3 x4 x5 x6 x7:Value} {row:Option Nat} (h:Cells8 w b x0 x1 x2 x3 x4 x5 x6 x7) (hg:w.grownBy w' row) (hne:some b≠row):Cells8 w' b x0 x1 x2 x3 x4 x5 x6 x7:=by
 obtain⟨a0,a1,a2,a3,a4,a5,a6,a7⟩:=h
 have hlt:b<w.heap.size:=bLt w _ a0
 have k:∀(i:Nat) (v:Value),w.cell? ⟨b,i,none⟩=some v->w'.cell? ⟨b,i,none⟩=some v:=fun i v hv=>(show w'.cell? ⟨b,i,none⟩=w.cell? ⟨b,i,none⟩ from World.cell?_of_block (hg.block b hlt hne)).trans hv
 exact⟨k 0 _ a0,k 1 _ a1,k 2 _ a2,k 3 _ a3,k 4 _ a4,k 5 _ a5,k 6 _ a6,k 7 _ a7⟩
theorem Cells8.below {w w':World} {b:Nat} {x0 x1 x2 x3 x4 x5 x6 x7:Value} (h:Cells8 w b x0 x1 x2 x3 x4 x5 x6 x7) (hb:Below w.heap.size w w'):Cells8 w' b x0 x1 x2 x3 x4 x5 x6 x7:=h.grown (grown_none hb) (by simp)
theorem allOuts_take {ns:List SNode} {k:Nat} {n:SNode} (h:ns[k]? = some n):allOuts (ns.take (k+1))=allOuts (ns.take k)+nouts n:=by
 unfold allOuts
 rw[take_node h,List.map_append,List.sum_append]
 simp
theorem nouts_small {n:SNode} (h:nodeChk n=0):0<=nouts n/\nouts n<=5:=by
 obtain⟨h1,_,_⟩:=node_kinds h
 unfold nouts
 rcases used_kinds h1 with ⟨h3 | h3,_⟩ | ⟨h3,h4,h5⟩ | ⟨h3,h4⟩ | ⟨h3,h4⟩
 . rw[if_neg (by omega),if_neg (by omega)];omega
 . rw[if_neg (by omega),if_pos h3];omega
 . rw[if_pos h3];omega
 . rw[if_neg (by omega),if_neg (by omega)];omega
 . rw[if_neg (by omega),if_neg (by omega)];omega
theorem ins_small {n:SNode} (h:nodeChk n=0):n.ins.length<=5:=by
 obtain⟨h1,h2,_⟩:=node_kinds h
 unfold mayHave at h2
 by_cases g1:n.kind=1
 . rw[if_pos g1] at h2;have:=of_decide_eq_true h2;omega
 . rw[if_neg g1] at h2
   by_cases g4:n.kind=4
   . rw[if_pos g4] at h2;exact (of_decide_eq_true h2).2
   . rw[if_neg g4] at h2;have:=of_decide_eq_true h2;omega
theorem chk_node {ns ahead r:List SNode} {n:SNode} {t:List (Int × Int)} (h:gchkL [] ns []=gchkL ahead (n::r) t) (hn:nodeChk n≠0):(gchkL [] ns []).1=nodeChk n:=by
 rw[h];unfold gchkL;rw[if_pos hn]
theorem chk_ins {ns ahead r:List SNode} {n:SNode} {t:List (Int × Int)} (h:gchkL [] ns []=gchkL ahead (n::r) t) (hn:nodeChk n=0) (hi:(insChk ahead n.ins t).1≠0):(gchkL [] ns []).1=(insChk ahead n.ins t).1:=by
 rw[h];unfold gchkL;rw[if_neg (by simp[hn]),if_pos hi]
theorem chk_last {ns ahead r:List SNode} {n:SNode} {t:List (Int × Int)} (h:gchkL [] ns []=gchkL ahead (n::r) t) (hn:nodeChk n=0) (hi:(insChk ahead n.ins t).1=0) (hl:r.isEmpty≠decide (n.kind=5)):(gchkL [] ns []).1=4:=by
 rw[h];unfold gchkL;rw[if_neg (by simp[hn]),if_neg (by simp[hi]),if_pos hl]
theorem chk_next {ns ahead r:List SNode} {n:SNode} {t:List (Int × Int)} (h:gchkL [] ns []=gchkL ahead (n::r) t) (hn:nodeChk n=0) (hi:(insChk ahead n.ins t).1=0) (hl:r.isEmpty=decide (n.kind=5)):gchkL [] ns []=gchkL (ahead++[n]) r (insChk ahead n.ins t).2:=by
 rw[h];conv=>lhs;unfold gchkL
 rw[if_neg (by simp[hn]),if_neg (by simp[hi]),if_neg (by simp[hl])]
theorem ins_who {ahead:List SNode} {ps t t' r:List (Int × Int)} {p:Int × Int} (h:insChk ahead ps t=insChk ahead (p::r) t') (hp:portOk ahead p=false):(insChk ahead ps t).1=5:=by
 rw[h];unfold insChk;rw[if_pos hp]
theorem ins_twice {ahead:List SNode} {ps t t' r:List (Int × Int)} {p:Int × Int} (h:insChk ahead ps t=insChk ahead (p::r) t') (hp:portOk ahead p=true) (ht:p∈t'):(insChk ahead ps t).1=6:=by
 rw[h];unfold insChk;rw[if_neg (by simp[hp]),if_pos ht]
theorem ins_next {ahead:List SNode} {ps t t' r:List (Int × Int)} {p:Int × Int} (h:insChk ahead ps t=insChk ahead (p::r) t') (hp:portOk ahead p=true) (ht:p∉t'):insChk ahead ps t=insChk ahead r (t'++[p]):=by
 rw[h];conv=>lhs;unfold insChk
 rw[if_neg (by simp[hp]),if_neg ht]
theorem ins_done {ahead:List SNode} {ps t t':List (Int × Int)} (h:insChk ahead ps t=insChk ahead [] t'):insChk ahead ps t=(0,t'):=by
 rw[h];rfl
theorem gchk_many {ns:List SNode} (h:60<ns.length):gchk ns=2:=by unfold gchk;rw[if_pos h]
theorem gchk_bad {ns:List SNode} (h:ns.length<=60) {r:Int} (hr:(gchkL [] ns []).1=r) (h0:r≠0):gchk ns=r:=by unfold gchk;rw[if_neg (by omega),if_pos (by rw[hr];exact h0),hr]
theorem gchk_end {ns:List SNode} (h:ns.length<=60) {t:List (Int × Int)} (hr:gchkL [] ns []=(0,t)):gchk ns=if ns.length=0\/(t.length:Int)≠allOuts ns then 4 else 0:=by
 unfold gchk
 rw[if_neg (by omega),hr]
 simp
theorem drop_port {ps:List (Int × Int)} {k:Nat} {p:Int × Int} (h:ps[k]? = some p):ps.drop k=p::ps.drop (k+1):=by
 obtain⟨hk,e⟩:=gSm h
 rw[<- e,<- List.drop_eq_getElem_cons hk]
end Go.Proofs.YtllgglolcgdehaaGreatDoor
namespace Go.Proofs.YtllgglolcgdehaaGreatDoor
open Go.RowKit Go.Gs Go.Maps
set_option linter.unusedVariables false
theorem zeroIntG (w:World):(zeroValue 3).run Tryz.prog w=.ok (.int .i64 0) w:=by kernel_rfl
theorem wf_small {k:Nat} (h:k<=60):(Lit.int .i64 (k:Int)).wf=true:=by
 simp[Lit.wf,IntKind.min,IntKind.max,IntKind.signed,IntKind.bits]
 omega
theorem gcheck_is (ns:List SNode) (ao:Option Addr) (cap:Nat) (w:World) (hr:RNodes w (.slice ao ns.length cap) ns) (hfit:∀n∈ns,FitsN n) :
 Calls Tryz.prog 93 #[.agg #[.slice ao ns.length cap]] w fun e w'=>e=.returned (.int .i64 (gchk ns))/\Below w.heap.size w w':=by
 have hle:=rnodes_le hr
 have HR:Hid (RNodes w (.slice ao ns.length cap) ns):=hr
 have HFit:Hid (∀n∈ns,FitsN n):=hfit
 obtain⟨N,hN⟩:∃N,N=ns.length:=⟨_,rfl⟩
 have HN:Hid (N=ns.length):=hN
 obtain⟨r,hrr⟩:∃r,r=gchk ns:=⟨_,rfl⟩
 have HRR:Hid (r=gchk ns):=hrr
 rw[<- hN,<- hrr]
 rw[<- hN] at HR hle
 clear hr hN hrr hfit
 by_cases h60:60<N
 .
  have hr2:r=2:=by rw[HRR.out,gchk_many (by rw[<- HN.out];exact h60)]
  subst hr2
  have hq:(60:Int)<N:=by omega
  clear HR HRR
  go_enter Tryz.func93,Tryz.ntmps93
  go_wp2_with fail
  go_ret
  exact⟨rfl,box_of⟩
 .
  have hq:¬(60:Int)<N:=by omega
  have hN60:N<=60:=by omega
  have hmm:=@run_makeMap Tryz.prog
  go_enter Tryz.func93,Tryz.ntmps93
  go_wp2_with fail
  go_loopw [4,21] (fun ov i wr=>∃k:Nat,∃t:List (Int × Int),∃os:Nat,k<=N/\i=.int .i64 k/\ov=.int .i64 os/\os<=5*k/\Hid ((os:Int)=allOuts (ns.take k))/\Hid (t.length<=5*k)/\Hid (gchkL [] ns []=gchkL (ns.take k) (ns.drop k) t)/\Hid (PortsAre wr (plainElem Tryz.prog 3) (w.heap.size+1) t.length t)/\Hid (Below (w.heap.size+1) (w.alloc (.cells #[.slice ao N cap] 24)) wr)) (fun _ i _=>N-(intOf i).toNat)
  case atStart=>exact⟨0,[],0,Nat.zero_le _,rfl,rfl,Nat.le_refl _,(show _=_ from rfl),(show _<=_ from Nat.le_refl _),(show _=_ by simp),ports_made w _ _,(Below.refl _ _).alloc (by simp) _⟩
  case round=>
   obtain⟨k,t,os,hk,rfl,rfl,hos,HOS,HTL,HG,HPA,hbel⟩:=hrel
   obtain⟨wo,hwo⟩:∃wo,wo=wr:=⟨_,rfl⟩
   subst hwo
   have hgx:=gbox_cell hbel.out
   have HBW:Hid (Below w.heap.size w wo):=box_of.trans (hbel.out.mono (by simp))
   by_cases hlt:k<N
   .
    obtain⟨n,hn⟩:∃n,ns[k]? = some n:=⟨_,gEl (by have:=HN.out;omega)⟩
    obtain⟨b,off,ai,ci,rfl,hNA,HP⟩:=HR.out.at hn
    obtain⟨c0,c1,c2,c3,c4,c5,c6,c7⟩:=hNA.below HBW.out
    have hil:=(rports_le HP)
    have hfn:=HFit.out n (mGt hn)
    have HCN:Hid _:=fun W=>checkNode_is n ai ci W hfn (by omega)
    obtain⟨nc,hnc⟩:∃nc,nc=nodeChk n:=⟨_,rfl⟩
    have HNC:Hid (nc=nodeChk n):=hnc
    rw[<- hnc] at HCN
    have HOU:Hid _:=fun W=>outs_is n ai n.ins.length ci W
    have HDR:Hid (ns.drop k=n::ns.drop (k+1)):=drop_node hn
    have HNN:Hid (ns[k]? = some n):=hn
    have HFN:Hid (FitsN n):=hfn
    obtain⟨nk,hnk⟩:∃z,z=n.kind:=⟨_,rfl⟩
    have HNK:Hid (nk=n.kind):=hnk
    obtain⟨ni,hni⟩:∃z,z=n.ins.length:=⟨_,rfl⟩
    have HNI:Hid (ni=n.ins.length):=hni
    have HPW:Hid (RPorts w (.slice ai n.ins.length ci) n.ins):=HP
    obtain⟨no,hno⟩:∃z,z=nouts n:=⟨_,rfl⟩
    have HNO:Hid (no=nouts n):=hno
    unfold nodeV at HCN HOU
    rw[<- hnk,<- hni] at HCN
    rw[<- hnk,<- hni,<- hno] at HOU
    rw[<- hni] at c7 hil HPW
    rw[<- hnk] at c0
    generalize (⟨n.file.toArray⟩:ByteArray)=fx at *
    generalize (⟨n.c.word.toArray⟩:ByteArray)=wx0 at *
    generalize n.c.kind=ck at *
    generalize n.c.n=cn at *
    generalize n.how=hw at *
    generalize n.wide=wd at *
    clear hn hfn hnc hnk hni HP hno hNA
    go_wp2_with fail
    refine (HCN.out _).mono ?_
    rintro e w1 ⟨rfl,hb1⟩
    have HC8:Hid (Cells8 w1 wo.heap.size (.int .i64 nk) (.string fx) (.int .i64 ck) (.string wx0) (.int .i64 cn) (.int .i64 hw) (.int .i64 wd) (.slice ai ni ci)):=nbox_cells hb1
    have HBX:Hid (Below wo.heap.size wo w1):=box_of.trans (hb1.mono (by simp))
    have HB1:Hid (Below (w.heap.size+1) (w.alloc (.cells #[.slice (some ⟨b,off,none⟩) N cap] 24)) w1):=hbel.out.trans (HBX.out.mono (by have:=hbel.out.size;simpa using this))
    have HPA1:Hid (PortsAre w1 (plainElem Tryz.prog 3) (w.heap.size+1) t.length t):=HPA.out.below HBX.out
    have HNB:Hid (w.heap.size+1<wo.heap.size):=(show _<_ from by obtain⟨D,h1,_⟩:=HPA.out;exact h1.lt)
    clear hb1 HCN hgx c0 c1 c2 c3 c4 c5 c6 c7
    by_cases hnc0:nc=0
    .
     subst hnc0
     have hni5:ni<=5:=by rw[HNI.out];exact ins_small HNC.out.symm
     obtain⟨y0,y1,y2,y3,y4,y5,y6,y7⟩:=id HC8.out
     go_wp2_with fail
     go_loopw [34] (fun j wx=>∃m:Nat,∃t':List (Int × Int),m<=ni/\j=.int .i64 m/\Hid (t'.length<=5*k+m)/\Hid (insChk (ns.take k) n.ins t=insChk (ns.take k) (n.ins.drop m) t')/\Hid (PortsAre wx (plainElem Tryz.prog 3) (w.heap.size+1) t'.length t')/\Hid (Cells8 wx wo.heap.size (.int .i64 nk) (.string fx) (.int .i64 ck) (.string wx0) (.int .i64 cn) (.int .i64 hw) (.int .i64 wd) (.slice ai ni ci))/\Hid (Below (w.heap.size+1) (w.alloc (.cells #[.slice (some ⟨b,off,none⟩) N cap] 24)) wx)) (fun j _=>ni-(intOf j).toNat)
     case atStart=>exact⟨0,t,Nat.zero_le _,rfl,HTL,(show _=_ by simp),HPA1,HC8,HB1⟩
     case round=>
      clear HPA1 HC8 HB1 y0 y1 y2 y3 y4 y5 y6 y7
      obtain⟨m,t',hm,rfl,HTL',HI,HPA',HC8,hbel'⟩:=hrel
      have hgx:=gbox_cell hbel'.out
      have HBW':Hid (Below w.heap.size w wr):=box_of.trans (hbel'.out.mono (by simp))
      obtain⟨y0,y1,y2,y3,y4,y5,y6,y7⟩:=id HC8.out
      by_cases hmlt:m<ni
      .
       obtain⟨p,hp⟩:∃p,n.ins[m]? = some p:=⟨_,gEl (by have:=HNI.out;omega)⟩
       have HBR:Hid (Below w.heap.size w wr):=HBW'
       obtain⟨pb,po,rfl,p0,p1⟩:=(RPorts.below HPW.out HBR.out).at hp
       have hwfp:WfP p:=HFN.out.2.2 p (mGt hp)
       have HDP:Hid (n.ins.drop m=p::n.ins.drop (m+1)):=drop_port hp
       obtain⟨pp,pq⟩:=p
       simp only at p0 p1
       have HWP:Hid (WfP (pp,pq)):=hwfp
       have hlenk:(ns.take k).length=k:=by rw[List.length_take];have:=HN.out;omega
       have HHP:Hid _:=fun (W:World) (hb:Below w.heap.size w W)=>hasPort_is (ns.take k) (some ⟨b,off,none⟩) cap pp pq W (by rw[hlenk];exact (HR.out.below hb).take k (by have:=HN.out;omega))
       rw[hlenk] at HHP
       obtain⟨po2,hpo2⟩:∃z,z=portOk (ns.take k) (pp,pq):=⟨_,rfl⟩
       have HPO:Hid (po2=portOk (ns.take k) (pp,pq)):=hpo2
       rw[<- hpo2] at HHP
       have hkc:k<=cap:=by omega
       clear hp hwfp hpo2 hlenk
       have hbx:Below w.heap.size w (wr.alloc (.cells #[.int .i64 pp,.int .i64 pq] 79)):=HBR.out.trans (box_of.mono HBR.out.size)
       have cF:∀d os,Calls Tryz.prog 145 #[.slice (some ⟨b,off,none⟩) k cap,.agg #[.int .i64 pp,.int .i64 pq]] (Go.Sort.grow (redrawn (wr.alloc (.cells #[.int .i64 pp,.int .i64 pq] 79)) d) os) fun e w''=>e=.returned (.bool po2) /\ ∃p:Regrown,w''=Go.Sort.grow (redrawn (wr.alloc (.cells #[.int .i64 pp,.int .i64 pq] 79)) p.d) p.os:=fun d os=>Calls.regrown_of (HHP.out _ (hbx.trans ((below_regrown _ d os).mono hbx.size)))
       obtain⟨q0,q1⟩:=pbox_cells (w:=wr) (a:=.int .i64 pp) (b:=.int .i64 pq) (t:=79) (Below.refl _ _)
       have z0:=fun d os=>cell_regrown q0 d os
       have z1:=fun d os=>cell_regrown q1 d os
       have z2:=fun d os=>cell_regrown ((box_of (o:=.cells #[.int .i64 pp,.int .i64 pq] 79)).cell (bLt wr _ hgx) |>.trans hgx) d os
       go_wp2_with fail
       refine wp_region_quiet_below (by kernel_rfl) (by kernel_rfl) ?_
       repeat (first | go_big_quiet_step (exact cF _ _) | quiet_step (exact cF _ _))
       refine wpQuiet_nil ?_
       intro _ hw'
       obtain⟨⟨dq,osq⟩,hw''⟩:=hw'
       subst hw''
       have HBQ:Hid (Below wr.heap.size wr (Go.Sort.grow (redrawn (wr.alloc (.cells #[.int .i64 pp,.int .i64 pq] 79)) dq) osq)):=box_of.trans ((below_regrown _ dq osq).mono (by simp))
       have k0:=z0 dq osq
       have k1:=z1 dq osq
       clear cF z0 z1 z2 q0 q1 HHP hbx
       generalize Go.Sort.grow (redrawn (wr.alloc (.cells #[.int .i64 pp,.int .i64 pq] 79)) dq) osq=wq at *
       have HBQ1:Hid (Below (w.heap.size+1) (w.alloc (.cells #[.slice (some ⟨b,off,none⟩) N cap] 24)) wq):=hbel'.out.trans (HBQ.out.mono (by have:=hbel'.out.size;simpa using this))
       have HPAq:Hid (PortsAre wq (plainElem Tryz.prog 3) (w.heap.size+1) t'.length t'):=HPA'.out.below HBQ.out
       have HC8q:Hid (Cells8 wq wo.heap.size (.int .i64 nk) (.string fx) (.int .i64 ck) (.string wx0) (.int .i64 cn) (.int .i64 hw) (.int .i64 wd) (.slice (some ⟨pb,po,none⟩) ni ci)):=HC8.out.below HBQ.out
       clear HC8 HPA' y0 y1 y2 y3 y4 y5 y6 y7 hgx p0 p1 hbel'
       cases po2 with
       | false=>
        have hr5:r=5:=by
         have h5:=ins_who (HI.out.trans (by rw[HDP.out])) HPO.out.symm
         rw[HRR.out,gchk_bad (by rw[<- HN.out];exact hN60) ((chk_ins (HG.out.trans (by rw[HDR.out])) HNC.out.symm (by rw[h5];decide)).trans h5) (by decide)]
        subst hr5
        have HBF:Hid (Below w.heap.size w wq):=box_of.trans (HBQ1.out.mono (by simp))
        clear HPAq HC8q HBQ1
        go_wp2_with fail
        go_ret
        exact⟨rfl,HBF.out⟩
       | true=>
        obtain⟨D,hown,hhas,hsize,hwfD⟩:=id HPAq.out
        have hkey:keyOf Tryz.prog 79 (.agg #[.int .i64 pp,.int .i64 pq])=some (portK (pp,pq)):=port_key wq (pp,pq) HWP.out
        have hh:=hhas (pp,pq) HWP.out
        have HHas:Hid _:=hhas
        have HSiz:Hid _:=hsize
        have HWfD:Hid _:=hwfD
        clear hhas hsize hwfD
        by_cases hin:(pp,pq)∈t'
        . have hr6:r=6:=by
           have h6:=ins_twice (HI.out.trans (by rw[HDP.out])) HPO.out.symm hin
           rw[HRR.out,gchk_bad (by rw[<- HN.out];exact hN60) ((chk_ins (HG.out.trans (by rw[HDR.out])) HNC.out.symm (by rw[h6];decide)).trans h6) (by decide)]
          subst hr6
          rw[decide_eq_true hin] at hh
          have HBF:Hid (Below w.heap.size w wq):=box_of.trans (HBQ1.out.mono (by simp))
          clear HPAq HC8q HBQ1
          go_wp2_with (at_lookup;refine wpList_lookup_own_ok_int _ rfl _ _ 109 rfl 79 3 .i64 portKeyed Tryz.underlying109 Tryz.underlying3 (zeroIntG _) (w.heap.size+1) _ D rfl hown _ _ rfl hkey ?_;intro cc hat hwc;rw[hh])
          go_ret
          exact⟨rfl,HBF.out⟩
        .
         rw[decide_eq_false hin] at hh
         have hn0:t'.length<maxLen:=by have:=HTL'.out;unfold maxLen;omega
         have hwk:=wf_small (show k<=60 by omega)
         have HI2:Hid (insChk (ns.take k) n.ins t=insChk (ns.take k) (n.ins.drop (m+1)) (t'++[(pp,pq)])):=(show _=_ from ins_next (HI.out.trans (by rw[HDP.out])) HPO.out.symm hin)
         have HTL2:Hid ((t'++[(pp,pq)]).length<=5*k+(m+1)):=(show _<=_ by have:=HTL'.out;simp;omega)
         go_wp2_with (first
          | (at_lookup;refine wpList_lookup_own_ok_int _ rfl _ _ 109 rfl 79 3 .i64 portKeyed Tryz.underlying109 Tryz.underlying3 (zeroIntG _) (w.heap.size+1) _ D rfl hown _ _ rfl hkey ?_;intro cc hat hwc;rw[hh];clear hat hwc)
          | (at_mapUpdate;refine wpList_mapUpdate_own _ rfl _ _ _ 109 rfl 79 3 portKeyed Tryz.underlying109 _ (w.heap.size+1) t'.length D rfl hown hn0 _ _ _ rfl rfl hkey _ [] (plainElem_int Tryz.underlying3 hwk) ?_;intro w5 ho5 hg5))
         have HP5:Hid (PortsAre w5 (plainElem Tryz.prog 3) (w.heap.size+1) (t'++[(pp,pq)]).length (t'++[(pp,pq)])):=(show PortsAre _ _ _ _ _ by
          have h:=PortsAre.put (W:=w) hown HHas.out HSiz.out HWfD.out HWP.out hin ho5
          simpa using h)
         have HC85:Hid (Cells8 w5 wo.heap.size (.int .i64 nk) (.string fx) (.int .i64 ck) (.string wx0) (.int .i64 cn) (.int .i64 hw) (.int .i64 wd) (.slice (some ⟨pb,po,none⟩) ni ci)):=HC8q.out.grown hg5 (by simp only[ne_eq,Option.some.injEq];have:=HNB.out;omega)
         have HB5:Hid (Below (w.heap.size+1) (w.alloc (.cells #[.slice (some ⟨b,off,none⟩) N cap] 24)) w5):=ins_below HBQ1.out hg5
         clear ho5 hg5 hown HHas HSiz HWfD HPAq HC8q HBQ1 hkey hh k0 k1
         go_wp2_with fail
         go_roundw
         case rel=>exact⟨m+1,_,by omega,by go_num,HTL2,HI2,HP5,HC85,HB5⟩
         case measure=>simp[intOf];omega
      .
       have hmn:m=ni:=by omega
       have HID:Hid (insChk (ns.take k) n.ins t=(0,t')):=(show _=_ from ins_done (HI.out.trans (by rw[List.drop_of_length_le (by rw[<- HNI.out];omega)])))
       have hlast:(ns.drop (k+1)).isEmpty=decide ((k:Int)=(N:Int)-1):=by
        by_cases e:k+1=N
        . rw[decide_eq_true (by omega),List.isEmpty_iff];exact List.drop_eq_nil_of_le (by rw[<- HN.out];omega)
        . rw[decide_eq_false (by omega)]
          cases hd:ns.drop (k+1) with
          | nil=>exact absurd (List.drop_eq_nil_iff.1 hd) (by rw[<- HN.out];omega)
          | cons a b=>rfl
       have HBF:Hid (Below w.heap.size w wr):=HBW'
       by_cases hk5:nk=5
       .
        subst hk5
        by_cases hkl:k+1=N
        .
         have q1:((k:Int) == (N:Int)-1)=true:=by simp;omega
         have he:(ns.drop (k+1)).isEmpty=decide (n.kind=5):=by rw[hlast,decide_eq_true (by omega),<- HNK.out];rfl
         have HG2:Hid (gchkL [] ns []=gchkL (ns.take (k+1)) (ns.drop (k+1)) t'):=(show _=_ by
          rw[chk_next (HG.out.trans (by rw[HDR.out])) HNC.out.symm (by rw[HID.out]) he,HID.out,take_node HNN.out])
         have HOS2:Hid (((os:Int)+no)=allOuts (ns.take (k+1))):=(show _=_ by rw[allOuts_take HNN.out,<- HOS.out,<- HNO.out])
         have HTL2:Hid (t'.length<=5*(k+1)):=(show _<=_ by have:=HTL'.out;omega)
         have hno5:=nouts_small HNC.out.symm
         rw[<- HNO.out] at hno5
         obtain⟨hno0,hno5⟩:=hno5
         obtain⟨non,rfl⟩:=Int.eq_ofNat_of_zero_le hno0
         clear HG HOS HTL HTL' HI HID hlast he HPA
         go_wp2_with fail
         refine (HOU.out _).mono ?_
         rintro e w6 ⟨rfl,hb6⟩
         have HB6:Hid (Below (w.heap.size+1) (w.alloc (.cells #[.slice (some ⟨b,off,none⟩) N cap] 24)) w6):=hbel'.out.trans (hb6.mono (by have:=hbel'.out.size;simpa using this))
         have HPA6:Hid (PortsAre w6 (plainElem Tryz.prog 3) (w.heap.size+1) t'.length t'):=HPA'.out.below hb6
         clear hb6 HOU HC8 HPA' hbel' hgx y0 y1 y2 y3 y4 y5 y6 y7
         go_wp2_with fail
         go_roundw
         case rel=>exact⟨k+1,t',os+non,by omega,by go_num,by go_num,by omega,(show _=_ by rw[<- HOS2.out];rfl),HTL2,HG2,HPA6,HB6⟩
         case measure=>simp[intOf];omega
        . have q1:((k:Int) == (N:Int)-1)=false:=by simp;omega
          have hr4:r=4:=by
           rw[HRR.out,gchk_bad (by rw[<- HN.out];exact hN60) (chk_last (HG.out.trans (by rw[HDR.out])) HNC.out.symm (by rw[HID.out]) (by rw[hlast,decide_eq_false (by omega),<- HNK.out];decide)) (by decide)]
          subst hr4
          clear HG HOS HTL HTL' HI HID hlast HPA HOU HC8 HPA' hbel'
          go_wp2_with fail
          go_ret
          exact⟨rfl,HBF.out⟩
       .
        have e5:(nk == 5)=false:=by simpa using hk5
        by_cases hkl:k+1=N
        . have q1:((k:Int) == (N:Int)-1)=true:=by simp;omega
          have hr4:r=4:=by
           rw[HRR.out,gchk_bad (by rw[<- HN.out];exact hN60) (chk_last (HG.out.trans (by rw[HDR.out])) HNC.out.symm (by rw[HID.out]) (by rw[hlast,decide_eq_true (by omega),<- HNK.out];rw[decide_eq_false hk5];decide)) (by decide)]
          subst hr4
          clear HG HOS HTL HTL' HI HID hlast HPA HOU HC8 HPA' hbel'
          go_wp2_with fail
          go_ret
          exact⟨rfl,HBF.out⟩
        .
         have q1:((k:Int) == (N:Int)-1)=false:=by simp;omega
         have he:(ns.drop (k+1)).isEmpty=decide (n.kind=5):=by rw[hlast,decide_eq_false (by omega),<- HNK.out];rw[decide_eq_false hk5]
         have HG2:Hid (gchkL [] ns []=gchkL (ns.take (k+1)) (ns.drop (k+1)) t'):=(show _=_ by
          rw[chk_next (HG.out.trans (by rw[HDR.out])) HNC.out.symm (by rw[HID.out]) he,HID.out,take_node HNN.out])
         have HOS2:Hid (((os:Int)+no)=allOuts (ns.take (k+1))):=(show _=_ by rw[allOuts_take HNN.out,<- HOS.out,<- HNO.out])
         have HTL2:Hid (t'.length<=5*(k+1)):=(show _<=_ by have:=HTL'.out;omega)
         have hno5:=nouts_small HNC.out.symm
         rw[<- HNO.out] at hno5
         obtain⟨hno0,hno5⟩:=hno5
         obtain⟨non,rfl⟩:=Int.eq_ofNat_of_zero_le hno0
         clear HG HOS HTL HTL' HI HID hlast he HPA
         go_wp2_with fail
         refine (HOU.out _).mono ?_
         rintro e w6 ⟨rfl,hb6⟩
         have HB6:Hid (Below (w.heap.size+1) (w.alloc (.cells #[.slice (some ⟨b,off,none⟩) N cap] 24)) w6):=hbel'.out.trans (hb6.mono (by have:=hbel'.out.size;simpa using this))
         have HPA6:Hid (PortsAre w6 (plainElem Tryz.prog 3) (w.heap.size+1) t'.length t'):=HPA'.out.below hb6
         clear hb6 HOU HC8 HPA' hbel' hgx y0 y1 y2 y3 y4 y5 y6 y7
         go_wp2_with fail
         go_roundw
         case rel=>exact⟨k+1,t',os+non,by omega,by go_num,by go_num,by omega,(show _=_ by rw[<- HOS2.out];rfl),HTL2,HG2,HPA6,HB6⟩
         case measure=>simp[intOf];omega
    . have hrn:r=nc:=by rw[HRR.out,gchk_bad (by rw[<- HN.out];exact hN60) ((chk_node (HG.out.trans (by rw[HDR.out])) (by rw[<- HNC.out];exact hnc0)).trans HNC.out.symm) hnc0]
      subst hrn
      have HBF:Hid (Below w.heap.size w w1):=box_of.trans (HB1.out.mono (by simp))
      clear HC8 HB1 HPA1 HPA HG HOS HTL
      go_wp2_with fail
      go_ret
      exact⟨rfl,HBF.out⟩
   .
    have hkN:k=N:=by omega
    have HGE:Hid (gchkL [] ns []=(0,t)):=(show _=_ by rw[HG.out,List.drop_of_length_le (by rw[<- HN.out];omega)];rfl)
    have hend:=gchk_end (by rw[<- HN.out];exact hN60) HGE.out
    have hos2:allOuts ns=(os:Int):=by
     have h:=HOS.out
     rw[hkN,HN.out,List.take_length] at h
     exact h.symm
    rw[<- HRR.out,<- HN.out,hos2] at hend
    obtain⟨D,hown,hhas,hsize,hwf⟩:=HPA.out
    by_cases hN0:N=0
    . subst hN0
      rw[if_pos (.inl rfl)] at hend
      subst hend
      clear HG HGE HOS hhas hsize hwf hown HPA HTL
      go_wp2_with fail
      go_ret
      exact⟨rfl,HBW.out⟩
    .
     have e0:((N:Int) == 0)=false:=by simp;omega
     have hsz:Go.Maps.size D=t.length:=hsize
     by_cases heq:(t.length:Int)=(os:Int)
     .
      rw[if_neg (by rintro (h | h);exact hN0 h;exact h heq)] at hend
      subst hend
      have hto:t.length=os:=by omega
      rw[hto] at hsz hown
      have hlen:=fun ty=>hown.len Tryz.underlying109 ty
      rw[hsz] at hlen
      clear HG HGE HOS hhas hsize hwf HPA HTL heq hto
      go_wp2_with fail
      go_ret
      exact⟨rfl,HBW.out⟩
     .
      rw[if_pos (.inr heq)] at hend
      subst hend
      obtain⟨tl,htl⟩:∃tl,tl=t.length:=⟨_,rfl⟩
      rw[<- htl] at hsz hown heq
      have hne:((tl:Int) == (os:Int))=false:=by simpa using heq
      have hlen:=fun ty=>hown.len Tryz.underlying109 ty
      rw[hsz] at hlen
      clear HG HGE HOS hhas hsize hwf HPA HTL htl
      go_wp2_with fail
      go_ret
      exact⟨rfl,HBW.out⟩
end Go.Proofs.YtllgglolcgdehaaGreatDoor
