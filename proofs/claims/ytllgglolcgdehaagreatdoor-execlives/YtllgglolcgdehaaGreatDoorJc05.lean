/- The law ExecLives, walked. -/
import Derived.Test.YtllgglolcgdehaaGreatDoorJc04
namespace Go.Proofs.YtllgglolcgdehaaGreatDoor
open Go.RowKit Go.Gs
set_option linter.unusedVariables false
set_option maxRecDepth 100000 in
set_option maxHeartbeats 4000000 in
theorem lives_bad (l:SLine) (W room:Int) (fs:List SFile) (pk:List Int) (af ad ao aq:Option Addr) (cf cd cap cq:Nat) (w:World) (hf:Reads w (.slice af l.fr.length cf) l.fr.length (l.fr.map S)) (hd:RCmds w (.slice ad l.cs.length cd) l.cs) (hfit:FitsL l) (hfs:RFiles w (.slice ao fs.length cap) fs) (hff:∀ f ∈ fs,FitsF f) (hq:Reads w (.slice aq pk.length cq) pk.length (Zs pk)) (hpk:∀ i ∈ pk,-9223372036854775808<=i/\i<=9223372036854775807) (hE:KnownE w) (h:¬ ((planT l W).2=0/\(newS (planT l W).1 fs room).2=0)) :
 Calls Tryz.prog 6 #[.agg #[.slice af l.fr.length cf,.slice ad l.cs.length cd,.string ⟨l.tu.toArray⟩],.int .i64 W,.slice ao fs.length cap,.int .i64 room,.slice aq pk.length cq] w fun e w'=>e=.returned (.bool true)/\Below w.heap.size w w':=by
 have HP:Hid (∀ V,Below w.heap.size w V->Calls Tryz.prog 28 #[.agg #[.slice af l.fr.length cf,.slice ad l.cs.length cd,.string ⟨l.tu.toArray⟩],.int .i64 W] V fun e w'=>PlanEnd V (planT l W) e w'):=(show ∀ V,_ from fun V hb=>plan_is l W af ad cf cd V (hf.below hb) (hd.below hb) hfit)
 have hfn:∀ n ∈ (planT l W).1,FitsN n:=by
  unfold planT
  split
  . intro n hn;cases hn
  . split
    . intro n hn;cases hn
    . rename_i h1 h2
      intro n hn
      exact right_fits (plan_right (by omega) (by simpa using h1)) hn
 have HNW:Hid (∀ (V:World) (an:Option Addr) (cn:Nat),Below w.heap.size w V->RNodes V (.slice an (planT l W).1.length cn) (planT l W).1->Calls Tryz.prog 15 #[.agg #[.slice an (planT l W).1.length cn],.slice ao fs.length cap,.int .i64 room] V fun e w'=>∃ v,e=.returned (.tuple #[v,.int .i64 (newS (planT l W).1 fs room).2])/\MachAns w' v (newS (planT l W).1 fs room).1/\Below V.heap.size V w'):=(show ∀ (V:World) (an:Option Addr) (cn:Nat),_ from fun V an cn hb hr=>NewE_is an ao cn cap (planT l W).1 fs room V hr (hfs.below hb) hfn hff)
 have HMI:Hid (∀ V,Below w.heap.size w V->Calls Tryz.prog 17 #[] V fun e w'=>e=.returned (.bool true)/\Below V.heap.size V w'):=(show ∀ V,_ from fun V hb=>milled_true V (hE.below hb))
 generalize (⟨l.tu.toArray⟩:ByteArray)=tx at *
 generalize l.fr.length=NFR at *
 generalize l.cs.length=NCS at *
 generalize fs.length=NFS at *
 generalize pk.length=NPK at *
 generalize newS (planT l W).1 fs room=nw at *
 obtain ⟨M0,f0⟩:=nw
 simp only at h HNW
 have hc:¬ (planT l W).2=0\/((planT l W).2=0 /\ ¬ f0=0):=by
  by_cases h1:(planT l W).2=0
  . exact .inr ⟨h1,fun h2=>h ⟨h1,h2⟩⟩
  . exact .inl h1
 clear hf hd hfit hfs hff hq hpk hE hfn h
 go_enter Tryz.func6,Tryz.ntmps6
 go_wp2_with fail
 refine Calls.mono (HP.out _ box_of) ?_
 rintro e w1 ⟨an1,cn1,rfl,hn1,hb1⟩
 have hB1:Below w.heap.size w w1:=Below.trans (box_of (w:=w)) (hb1.mono (by simp))
 have HC1:Hid _:=HNW.out _ an1 cn1 (hB1.trans ((box_of (w:=w1) (o:=.cells #[.slice an1 (planT l W).1.length cn1] 24)).mono hB1.size)) (hn1.below box_of)
 have HB1:Hid (Below w.heap.size w w1):=hB1
 clear hn1 hb1 hB1 HP HNW
 generalize (planT l W).1.length=NL at *
 generalize (planT l W).2=e0 at *
 go_wp2_with fail
 refine Calls.mono HC1.out ?_
 rintro e w2 ⟨v,rfl,hA2,hb2⟩
 have HB2:Hid (Below w.heap.size w w2):=HB1.out.trans ((Below.trans (box_of (w:=w1)) (hb2.mono (by simp))).mono HB1.out.size)
 obtain ⟨an,af',ax,ap,aS,cn,cf',cx,cp,cs,rfl,hM2⟩:=hA2
 unfold machV
 generalize M0.ns.length=NN at *
 generalize M0.fs.length=NF at *
 generalize M0.pipes.length=NX at *
 generalize M0.ps.length=NP at *
 generalize M0.sunk.length=NS at *
 clear hM2 hb2 HC1
 go_wp2_with fail
 refine Calls.mono (HMI.out _ (HB2.out.trans ((box_of (w:=w2)).mono HB2.out.size))) ?_
 rintro e w3 ⟨rfl,hb3⟩
 have HB3:Hid (Below w.heap.size w w3):=HB2.out.trans ((Below.trans (box_of (w:=w2)) (hb3.mono (by simp))).mono HB2.out.size)
 clear hb3
 have HM3:Hid _:=HMI.out _ HB3.out
 clear HMI
 rcases hc with h1 | ⟨h1,h2⟩
 all_goals
  go_wp2_with fail
  refine Calls.mono HM3.out ?_
  rintro e w4 ⟨rfl,hb4⟩
  have HB4:Hid (Below w.heap.size w w4):=HB3.out.trans (hb4.mono HB3.out.size)
  clear hb4
  go_wp2_with fail
  go_ret
  exact ⟨rfl,HB4.out⟩
theorem circ {NP m a:Nat} (hm:m < NP) (ha:a < NP):∃ j,j < NP/\(m+j) % NP=a:=by
 by_cases h:m<=a
 . exact ⟨a-m,by omega,by rw [Nat.mod_eq_of_lt (by omega)];omega⟩
 . refine ⟨a+NP-m,by omega,?_⟩
   have:m+(a+NP-m)=a+NP:=by omega
   rw [this,Nat.add_mod_right,Nat.mod_eq_of_lt ha]
def Next (ns:List SNode) (fs:List SFile) (room:Int) (M:SMach) (m P b k:Nat) (E:Int) (w:World):Prop:=
 ∃ an af ax ap aS nn nf nx np nS cn cf cx cp cs,w.heap[b]? = some (.cells #[.slice an nn cn,.slice af nf cf,.slice ax nx cx,.slice ap np cp,.slice aS nS cs] 30 (0,0)) /\
  (E=0 -> ∃ X,nn=X.ns.length/\nf=X.fs.length/\nx=X.pipes.length/\np=X.ps.length/\nS=X.sunk.length/\NewRM b w an af ax ap aS cn cf cx cp cs X/\Go.Gs.Reach ns fs room X) /\
  (E ≠ 0 -> ∀ j,j < k->(stepN M ((m+j) % P)).2 ≠ 0)
set_option maxRecDepth 100000 in
set_option maxHeartbeats 16000000 in
theorem lives_ok (l:SLine) (W room:Int) (fs:List SFile) (pk:List Int) (af ad ao aq:Option Addr) (cf cd cap cq:Nat) (w:World) (hf:Reads w (.slice af l.fr.length cf) l.fr.length (l.fr.map S)) (hd:RCmds w (.slice ad l.cs.length cd) l.cs) (hfit:FitsL l) (hfs:RFiles w (.slice ao fs.length cap) fs) (hff:∀ f ∈ fs,FitsF f) (hq:Reads w (.slice aq pk.length cq) pk.length (Zs pk)) (hpk:∀ i ∈ pk,-9223372036854775808<=i/\i<=9223372036854775807) (hE:KnownE w) (h1:(planT l W).2=0) (h2:(newS (planT l W).1 fs room).2=0) :
 Calls Tryz.prog 6 #[.agg #[.slice af l.fr.length cf,.slice ad l.cs.length cd,.string ⟨l.tu.toArray⟩],.int .i64 W,.slice ao fs.length cap,.int .i64 room,.slice aq pk.length cq] w fun e w'=>e=.returned (.bool true)/\Below w.heap.size w w':=by
 have HP:Hid (∀ V,Below w.heap.size w V->Calls Tryz.prog 28 #[.agg #[.slice af l.fr.length cf,.slice ad l.cs.length cd,.string ⟨l.tu.toArray⟩],.int .i64 W] V fun e w'=>PlanEnd V (planT l W) e w'):=(show ∀ V,_ from fun V hb=>plan_is l W af ad cf cd V (hf.below hb) (hd.below hb) hfit)
 have hfn:∀ n ∈ (planT l W).1,FitsN n:=by
  unfold planT
  split
  . intro n hn;cases hn
  . split
    . intro n hn;cases hn
    . rename_i h1 h2
      intro n hn
      exact right_fits (plan_right (by omega) (by simpa using h1)) hn
 have HNW:Hid (∀ (V:World) (an:Option Addr) (cn:Nat),Below w.heap.size w V->RNodes V (.slice an (planT l W).1.length cn) (planT l W).1->Calls Tryz.prog 15 #[.agg #[.slice an (planT l W).1.length cn],.slice ao fs.length cap,.int .i64 room] V fun e w'=>∃ v,e=.returned (.tuple #[v,.int .i64 (newS (planT l W).1 fs room).2])/\MachAns w' v (newS (planT l W).1 fs room).1/\Below V.heap.size V w'):=(show ∀ (V:World) (an:Option Addr) (cn:Nat),_ from fun V an cn hb hr=>NewE_is an ao cn cap (planT l W).1 fs room V hr (hfs.below hb) hfn hff)
 have HMI:Hid (∀ V,Below w.heap.size w V->Calls Tryz.prog 17 #[] V fun e w'=>e=.returned (.bool true)/\Below V.heap.size V w'):=(show ∀ V,_ from fun V hb=>milled_true V (hE.below hb))
 obtain ⟨hg,hfc,hbd,hr1,hr2,hnw,hre,_,_,_⟩:=plan_reach h1 h2
 rw [hnw] at HNW
 obtain ⟨ns,hns⟩:∃ z,z=(planT l W).1:=⟨_,rfl⟩
 rw [<- hns] at HNW hg hbd hre hfn
 have HOV:Hid (∀ (V:World) (an af ax ap aS:Option Addr) (cn cf cx cp cs:Nat) (M:SMach),RMach V an af ax ap aS cn cf cx cp cs M->Calls Tryz.prog 31 #[machV an af ax ap aS M cn cf cx cp cs] V fun e w'=>e=.returned (.bool (overS M))/\Below V.heap.size V w'):=(show ∀ (V:World) (an af ax ap aS:Option Addr) (cn cf cx cp cs:Nat) (M:SMach),_ from fun V an af ax ap aS cn cf cx cp cs M h=>lover_is an af ax ap aS cn cf cx cp cs M V h)
 have HST:Hid (∀ (V:World) (an af ax ap aS:Option Addr) (cn cf cx cp cs:Nat) (M:SMach) (j:Nat),Below w.heap.size w V->j < M.ps.length->RMach V an af ax ap aS cn cf cx cp cs M->Go.Gs.Reach ns fs room M->Calls Tryz.prog 14 #[machV an af ax ap aS M cn cf cx cp cs,.int .i64 j] V fun e w'=>∃ v X,e=.returned (.tuple #[v,.int .i64 (stepN M j).2])/\MachNew V.heap.size w' v X/\((stepN M j).2=0->Go.Gs.Reach ns fs room X)/\Below V.heap.size V w'):=(show ∀ (V:World) (an af ax ap aS:Option Addr) (cn cf cx cp cs:Nat) (M:SMach) (j:Nat),_ from fun V an af ax ap aS cn cf cx cp cs M j hV hj hM hR=>by
  have hS:=StepN_is an af ax ap aS cn cf cx cp cs M (j:Int) V hM (reach_fits hg hfc hfn hff hR) (fun V' hV'=>hE.below (hV.trans (hV'.mono hV.size)))
  have e1:stepS M (j:Int)=stepN M j:=by
   unfold stepS
   rw [if_neg (by omega),Int.toNat_natCast]
  have e2:(stepR M (j:Int)).2=(stepN M j).2:=by
   unfold stepR
   rw [if_neg (by simp [hR.chk hg hfc hbd]),e1]
   split
   . rfl
   . rfl
  rw [e2] at hS
  refine hS.mono ?_
  rintro e w' ⟨v,q1,q2,q3⟩
  refine ⟨v,_,q1,q2,fun q4=>?_,q3⟩
  have e3:(stepR M (j:Int)).1=(stepN M j).1:=by
   unfold stepR
   rw [if_neg (by simp [hR.chk hg hfc hbd]),e1,if_neg (by simp [q4])]
  rw [e3]
  exact hR.step (right_graph hg) j)
 have HLV:Hid (∀ M,Go.Gs.Reach ns fs room M->overS M=false -> ∃ a,a < M.ps.length/\(stepN M a).2=0):=(show ∀ M,_ from fun M hR ho=>hR.lives (right_graph hg) hbd hr1 ho)
 have HRO:Hid (∀ M,Go.Gs.Reach ns fs room M -> ∀ x ∈ M.pipes,0 < x.room->(x.b.length:Int)<=x.room/\x.room=room):=(show ∀ M,_ from fun M hR=>hR.rooms (right_graph hg))
 have HPN:Hid (∀ M,Go.Gs.Reach ns fs room M->1<=M.ps.length/\M.ps.length<=60/\M.pipes.length<=1000):=(show ∀ M,_ from fun M hR=>by
  have hS:=hR.shape hg hfc
  have q1:=hS.plen
  have q2:=hS.g.le60
  obtain ⟨n,p,q3,_⟩:=hS.g.last
  have q4:=(List.getElem?_eq_some_iff.1 q3).1
  have q5:=hS.xlen
  have q6:=pipesN hS.g M.ns.length
  rw [List.take_length] at q6
  omega)
 have HRE:Hid (Go.Gs.Reach ns fs room (freshM ns fs room)):=hre
 have HQ:Hid (Reads w (.slice aq pk.length cq) pk.length (Zs pk)):=hq
 have HPK:Hid (∀ i ∈ pk,-9223372036854775808<=i/\i<=9223372036854775807):=hpk
 have hle:=readsE_le hq
 simp only at HNW
 generalize (⟨l.tu.toArray⟩:ByteArray)=tx at *
 generalize l.fr.length=NFR at *
 generalize l.cs.length=NCS at *
 generalize fs.length=NFS at *
 obtain ⟨NPK,hNPK⟩:∃ z,z=pk.length:=⟨_,rfl⟩
 have HNPK:Hid (NPK=pk.length):=hNPK
 rw [<- hNPK] at HQ hle ⊢
 clear hf hd hfit hfs hff hq hpk hE hfn hg hfc hbd hr1 hr2 hnw hre hNPK h2
 go_enter Tryz.func6,Tryz.ntmps6
 go_wp2_with fail
 refine Calls.mono (HP.out _ box_of) ?_
 rintro e w1 ⟨an1,cn1,rfl,hn1,hb1⟩
 rw [<- hns] at hn1 ⊢
 rw [h1]
 have hB1:Below w.heap.size w w1:=Below.trans (box_of (w:=w)) (hb1.mono (by simp))
 have HC1:Hid _:=HNW.out _ an1 cn1 (hB1.trans ((box_of (w:=w1) (o:=.cells #[.slice an1 ns.length cn1] 24)).mono hB1.size)) (hn1.below box_of)
 have HB1:Hid (Below w.heap.size w w1):=hB1
 clear hn1 hb1 hB1 HP HNW hns h1
 generalize ns.length=NL at *
 go_wp2_with fail
 refine Calls.mono HC1.out ?_
 rintro e w2 ⟨v,rfl,hA2,hb2⟩
 have HB2:Hid (Below w.heap.size w w2):=HB1.out.trans ((Below.trans (box_of (w:=w1)) (hb2.mono (by simp))).mono HB1.out.size)
 obtain ⟨an,af',ax,ap,aS,cn,cf',cx,cp,cs,rfl,hM2⟩:=hA2
 have HBX:Hid (BoxM (w2.alloc (.cells #[.slice an (freshM ns fs room).ns.length cn,.slice af' (freshM ns fs room).fs.length cf',.slice ax (freshM ns fs room).pipes.length cx,.slice ap (freshM ns fs room).ps.length cp,.slice aS (freshM ns fs room).sunk.length cs] 30)) w2.heap.size (freshM ns fs room)):=⟨an,af',ax,ap,aS,cn,cf',cx,cp,cs,heap_alloc_new _ _,hM2.below box_of⟩
 unfold machV
 generalize (freshM ns fs room).ns.length=NN at *
 generalize (freshM ns fs room).fs.length=NF at *
 generalize (freshM ns fs room).pipes.length=NX at *
 generalize (freshM ns fs room).ps.length=NP at *
 generalize (freshM ns fs room).sunk.length=NS at *
 clear hM2 hb2 HC1
 go_wp2_with fail
 refine Calls.mono (HMI.out _ (HB2.out.trans ((box_of (w:=w2)).mono HB2.out.size))) ?_
 rintro e w3 ⟨rfl,hb3⟩
 have HB3:Hid (Below w.heap.size w w3):=HB2.out.trans ((Below.trans (box_of (w:=w2)) (hb3.mono (by simp))).mono HB2.out.size)
 have HBX3:Hid (BoxM w3 w2.heap.size (freshM ns fs room)):=(show BoxM _ _ _ from BoxM.below HBX.out hb3)
 obtain ⟨B,hB⟩:∃ z,z=w2.heap.size:=⟨_,rfl⟩
 rw [<- hB] at HBX3 ⊢
 have HBB:Hid (w.heap.size<=B):=(show _<=_ by rw [hB];exact HB2.out.size)
 obtain ⟨K,hK⟩:∃ z:Nat,z=min NPK 60:=⟨_,rfl⟩
 have hmin:min (NPK:Int) 60=(K:Int):=by omega
 have hK1:K<=NPK:=by omega
 have hK2:K<=cq:=by omega
 clear hb3 HBX HMI hB hK
 go_upto_region 6 with fail
 go_loopw [52] (fun z wr=>∃ k:Nat,k<=K/\z=.int .i64 k/\Hid (∃ M,BoxM wr B M/\Go.Gs.Reach ns fs room M)/\Hid (Below w.heap.size w wr)) (fun z _=>K-(intOf z).toNat)
 case atStart=>exact ⟨0,Nat.zero_le _,rfl,(show ∃ M,_ from ⟨_,HBX3.out,HRE.out⟩),HB3⟩
 case round=>
  obtain ⟨k,hk,rfl,hMB,hBw⟩:=hrel
  clear HBX3 HB3 HRE hmin
  by_cases hlt:k < K
  . obtain ⟨M,hBM,hRM⟩:=hMB.out
    obtain ⟨i,hi⟩:∃ i,pk[k]? = some i:=⟨_,List.getElem?_eq_getElem (by have:=HNPK.out;omega)⟩
    obtain ⟨bq,oq,rfl,hcq⟩:=readsE_at (HQ.out.below hBw.out) (j:=k) (u:=.int .i64 i) (by simp [Zs,hi])
    obtain ⟨hi1,hi2⟩:=HPK.out i (List.mem_of_getElem? hi)
    obtain ⟨hp1,hp2,hp3⟩:=HPN.out M hRM
    obtain ⟨an2,af2,ax2,ap2,aS2,cn2,cf2,cx2,cp2,cs2,hrow,hMR⟩:=hBM
    obtain ⟨x0,x1,x2,x3,x4,xf⟩:=cells5C hrow
    have HROW:Hid (wr.heap[B]? = some (.cells #[.slice an2 M.ns.length cn2,.slice af2 M.fs.length cf2,.slice ax2 M.pipes.length cx2,.slice ap2 M.ps.length cp2,.slice aS2 M.sunk.length cs2] 30 (0,0))):=hrow
    have HMR:Hid (RMach wr an2 af2 ax2 ap2 aS2 cn2 cf2 cx2 cp2 cs2 M):=hMR
    have HRM:Hid (Go.Gs.Reach ns fs room M):=hRM
    have HC:Hid _:=HOV.out wr an2 af2 ax2 ap2 aS2 cn2 cf2 cx2 cp2 cs2 M hMR
    have HLM:Hid _:=HLV.out M hRM
    have HS2:Hid _:=fun V j hV=>HST.out V an2 af2 ax2 ap2 aS2 cn2 cf2 cx2 cp2 cs2 M j hV
    obtain ⟨m,hm⟩:=Int.eq_ofNat_of_zero_le (Int.emod_nonneg i (show ((M.ps.length:Nat):Int) ≠ 0 by omega))
    have hmlt:m < M.ps.length:=by have:=Int.emod_lt_of_pos i (show (0:Int) < ((M.ps.length:Nat):Int) by omega);omega
    have HAT:Hid (∀ V,Calls Tryz.prog 32 #[.int .i64 i,.int .i64 (M.ps.length:Nat)] V fun e w'=>e=.returned (.int .i64 (m:Nat))/\w'=V):=(show ∀ V,_ from fun V=>by
     have:=at_mod i M.ps.length V hi1 hi2 hp1 (by omega)
     rw [hm] at this
     exact this)
    have HNE:Hid ((∀ j,j < M.ps.length->(stepN M ((m+j) % M.ps.length)).2 ≠ 0)->overS M=true):=(show (∀ j,_)->_ from fun hno=>by
     cases ho:overS M with
     | true=>rfl
     | false=>
      obtain ⟨a,ha,hs⟩:=HLM.out ho
      obtain ⟨j,hj,e⟩:=circ hmlt ha
      exact absurd (by rw [e];exact hs) (hno j hj))
    unfold machV at HC HS2
    generalize M.ns.length=N0 at *
    generalize M.fs.length=F0 at *
    generalize M.pipes.length=X0 at *
    generalize M.ps.length=P0 at *
    generalize M.sunk.length=S0 at *
    clear hMB hi hm hi1 hi2 hrow hMR hRM xf HLM
    go_wp2_with fail
    refine Calls.mono HC.out ?_
    rintro e w4 ⟨rfl,hb4⟩
    have HB4:Hid (Below w.heap.size w w4):=hBw.out.trans (hb4.mono hBw.out.size)
    have hrow4:=(hb4.block B (Array.getElem?_eq_some_iff.1 HROW.out).1).trans HROW.out
    have hMR4:=HMR.out.below hb4
    clear HC hb4 HROW HMR x0 x1 x2 x3 x4
    obtain ⟨x0,x1,x2,x3,x4,xf⟩:=cells5C hrow4
    have HROW4:Hid (w4.heap[B]? = some (.cells #[.slice an2 N0 cn2,.slice af2 F0 cf2,.slice ax2 X0 cx2,.slice ap2 P0 cp2,.slice aS2 S0 cs2] 30 (0,0))):=hrow4
    have HMR4:Hid (RMach w4 an2 af2 ax2 ap2 aS2 cn2 cf2 cx2 cp2 cs2 M):=hMR4
    have HBL:Hid (B < w4.heap.size):=(show _ < _ from (Array.getElem?_eq_some_iff.1 hrow4).1)
    clear hrow4 hMR4 xf
    cases ho:overS M with
    | true=>
     go_wp2_with fail
     go_ret
     exact ⟨rfl,HB4.out⟩
    | false=>
     have HO:Hid (overS M=false):=ho
     obtain ⟨B18,hB18⟩:∃ z,z=w4.heap.size:=⟨_,rfl⟩
     have HB18:Hid (B18=w4.heap.size):=hB18
     have HNX0:Hid (Next ns fs room M m P0 B18 0 8 (w4.alloc (.cells #[.slice an2 N0 cn2,.slice af2 F0 cf2,.slice ax2 X0 cx2,.slice ap2 P0 cp2,.slice aS2 S0 cs2] 30))):=(show Next _ _ _ _ _ _ _ _ _ _ from ⟨an2,af2,ax2,ap2,aS2,N0,F0,X0,P0,S0,cn2,cf2,cx2,cp2,cs2,by rw [hB18];exact heap_alloc_new _ _,fun h=>absurd h (by decide),fun _ j hj=>absurd hj (by omega)⟩)
     clear ho hBw hcq
     go_upto_region 12 with fail
     rw [<- hB18]
     clear x0 x1 x2 x3 x4 hB18
     go_loopw [17,19] (fun z y wr=>∃ (k2:Nat) (E:Int),k2<=P0/\z=.int .i64 k2/\y=.int .i64 E/\Hid (Next ns fs room M m P0 B18 k2 E wr)/\Hid (Below w4.heap.size w4 wr)) (fun z _ _=>P0-(intOf z).toNat)
     case atStart=>exact ⟨0,8,Nat.zero_le _,rfl,rfl,HNX0,box_of⟩
     case round=>
      obtain ⟨k2,E,hk2,rfl,rfl,hNX,hB5⟩:=hrel
      clear HNX0
      have hrowB:=(hB5.out.block B HBL.out).trans HROW4.out
      obtain ⟨x0,x1,x2,x3,x4,xf⟩:=cells5C hrowB
      obtain ⟨a1,a2,a3,a4,a5,n1,n2,n3,n4,n5,c1,c2,c3,c4,c5,hrow8,hgood,hno⟩:=hNX.out
      obtain ⟨y0,y1,y2,y3,y4,yf⟩:=cells5C hrow8
      have HBW:Hid (Below w.heap.size w wr):=(show Below _ _ _ from HB4.out.trans (hB5.out.mono HB4.out.size))
      have HB8L:Hid (B18 < wr.heap.size):=(show _ < _ from (Array.getElem?_eq_some_iff.1 hrow8).1)
      have HROW8:Hid (wr.heap[B18]? = some (.cells #[.slice a1 n1 c1,.slice a2 n2 c2,.slice a3 n3 c3,.slice a4 n4 c4,.slice a5 n5 c5] 30 (0,0))):=hrow8
      have HNO:Hid (E ≠ 0 -> ∀ j,j < k2->(stepN M ((m+j) % P0)).2 ≠ 0):=hno
      by_cases hE0:E=0
      . obtain ⟨X,q1,q2,q3,q4,q5,hNX7,hRX⟩:=hgood hE0
        have HNX7:Hid (NewRM B18 wr a1 a2 a3 a4 a5 c1 c2 c3 c4 c5 X):=hNX7
        have HRX:Hid (Go.Gs.Reach ns fs room X):=hRX
        have HROWB:Hid (wr.heap[B]? = some (.cells #[.slice an2 N0 cn2,.slice af2 F0 cf2,.slice ax2 X0 cx2,.slice ap2 P0 cp2,.slice aS2 S0 cs2] 30 (0,0))):=hrowB
        have HQ5:Hid (n1=X.ns.length/\n2=X.fs.length/\n3=X.pipes.length/\n4=X.ps.length/\n5=X.sunk.length):=⟨q1,q2,q3,q4,q5⟩
        obtain ⟨wN,hwN⟩:∃ z,z=((((wr.setCell ⟨B,0,none⟩ (.slice a1 n1 c1)).setCell ⟨B,1,none⟩ (.slice a2 n2 c2)).setCell ⟨B,2,none⟩ (.slice a3 n3 c3)).setCell ⟨B,3,none⟩ (.slice a4 n4 c4)).setCell ⟨B,4,none⟩ (.slice a5 n5 c5):=⟨_,rfl⟩
        have hBX:=(box_store (b:=B) HNX7.out (by have:=HBL.out;have:=HB18.out;omega) HROWB.out (congrArg (fun n=>Value.slice a1 n c1) q1) (congrArg (fun n=>Value.slice a2 n c2) q2) (congrArg (fun n=>Value.slice a3 n c3) q3) (congrArg (fun n=>Value.slice a4 n c4) q4) (congrArg (fun n=>Value.slice a5 n c5) q5)).1
        rw [<- hwN] at hBX
        have HBX:Hid (BoxM wN B X):=hBX
        have HBN:Hid (Below w.heap.size w wN):=(show Below _ _ _ by rw [hwN];exact box5_below HBW.out HBB.out)
        have hrowN:wN.heap[B]? = some (.cells #[.slice a1 n1 c1,.slice a2 n2 c2,.slice a3 n3 c3,.slice a4 n4 c4,.slice a5 n5 c5] 30 (0,0)):=by rw [hwN];exact box5_set HROWB.out
        have HPX:Hid (RPipes wN (.slice a3 n3 c3) X.pipes):=(show RPipes _ _ _ by
         obtain ⟨b1,b2,b3,b4,b5,d1,d2,d3,d4,d5,r1,r2⟩:=HBX.out
         rw [hrowN] at r1
         simp at r1
         obtain ⟨_,_,⟨g1,g2,g3⟩,_⟩:=r1
         rw [g1,g2,g3]
         exact r2.pipes)
        have HN3:Hid (n3=X.pipes.length):=q3
        have xf0:=xf 0
        have xf1:=xf 1
        have xf2:=xf 2
        have xf3:=xf 3
        have xf4:=xf 4
        have hBne:B ≠ B18:=by have:=HBL.out;have:=HB18.out;omega
        have hn3le:n3<=1000:=by have:=(HPN.out X hRX).2.2;omega
        obtain ⟨p0,p1,p2,p3,p4,pf⟩:=cells5C hrowN
        clear hgood hno hNX hrow8 hrowB q1 q2 q3 q4 q5 hNX7 hRX hBX hrowN xf yf pf p0 p1 p3 p4 HS2 HAT HNE HNO
        by_cases hk3:k2 < P0
        all_goals
         go_upto_region 18 with fail
         rw [<- hwN]
         clear hwN x0 x1 x2 x3 x4 y0 y1 y2 y3 y4 xf0 xf1 xf2 xf3 xf4 hB5 HBW HB8L HROW8 HROWB
         go_wp2_with fail
         clear p2
         go_loopw [92] (fun z wr=>∃ q:Nat,q<=n3/\z=.int .i64 q/\Hid (Below wN.heap.size wN wr)) (fun z _=>n3-(intOf z).toNat)
         case atStart=>exact ⟨0,Nat.zero_le _,rfl,Below.refl _ _⟩
         case round=>
          obtain ⟨q,hq,rfl,hB6⟩:=hrel
          by_cases hq3:q < n3
          . obtain ⟨x,hx⟩:∃ x,X.pipes[q]? = some x:=⟨_,List.getElem?_eq_getElem (by have:=HN3.out;omega)⟩
            obtain ⟨b,off,ab,cb,rfl,z0,z1,z2,z3,_⟩:=(RPipes.below HPX.out hB6.out).at hx
            have hro:=HRO.out X HRX.out x (List.mem_of_getElem? hx)
            generalize x.b.length=xl at *
            generalize x.room=xr at *
            generalize x.closed=xc at *
            generalize x.shut=xs at *
            clear hx
            by_cases hr0:0 < xr
            . obtain ⟨g1,g2⟩:=hro hr0
              subst g2
              have g3:¬ (xr < (xl:Int)):=by omega
              clear hro
              go_wp2_with fail
              have HB7:Hid (Below wN.heap.size wN (wr.alloc (.cells #[.slice ab xl cb,.int .i64 xr,.bool xc,.bool xs] 66))):=hB6.out.trans ((box_of (w:=wr)).mono hB6.out.size)
              go_roundw
              case rel=>exact ⟨q+1,by omega,by go_num,HB7⟩
              case measure=>simp [intOf];omega
            . clear hro
              go_wp2_with fail
              have HB7:Hid (Below wN.heap.size wN (wr.alloc (.cells #[.slice ab xl cb,.int .i64 xr,.bool xc,.bool xs] 66))):=hB6.out.trans ((box_of (w:=wr)).mono hB6.out.size)
              go_roundw
              case rel=>exact ⟨q+1,by omega,by go_num,HB7⟩
              case measure=>simp [intOf];omega
          . have HB7:Hid (Below w.heap.size w wr):=HBN.out.trans (hB6.out.mono HBN.out.size)
            have HM7:Hid (∃ M,BoxM wr B M/\Go.Gs.Reach ns fs room M):=(show ∃ M,_ from ⟨X,BoxM.below HBX.out hB6.out,HRX.out⟩)
            go_wp2_with fail
            go_roundw
            case rel=>exact ⟨k+1,by omega,by go_num,HM7,HB7⟩
            case measure=>simp [intOf];omega
      . by_cases hk3:k2 < P0
        . obtain ⟨T,hT⟩:∃ z,z=m+k2:=⟨_,rfl⟩
          obtain ⟨j,hj⟩:∃ z,z=T % P0:=⟨_,rfl⟩
          have hjl:j < P0:=by rw [hj];exact Nat.mod_lt _ (by omega)
          have hw1:IntKind.i64.wrap ((m:Int)+(k2:Int))=(T:Int):=by
           have e:((m:Int)+(k2:Int))=(T:Int):=by omega
           rw [e,IntKind.wrap_i64]
           omega
          have hrem:(T:Int).tmod (P0:Int)=(j:Int):=by
           rw [hj,Int.tmod_eq_emod_of_nonneg (by omega)]
           rfl
          have hw2:IntKind.i64.wrap (j:Int)=(j:Int):=by rw [IntKind.wrap_i64];omega
          have hnz:¬ ((P0:Int)=0):=by omega
          have HJ:Hid (j=(m+k2) % P0):=(show _=_ by rw [hj,hT])
          have HS3:Hid _:=fun V (hV:Below wr.heap.size wr V)=>HS2.out V j (HBW.out.trans (hV.mono HBW.out.size)) hjl ((HMR4.out.below hB5.out).below hV) HRM.out
          have HE0:Hid (E ≠ 0):=hE0
          clear hrow8 hgood hno hNX hrowB xf yf y0 y1 y2 y3 y4 hT hj
          go_upto_region 13 with fail
          go_region_with (first
           | (go_at_call 32;refine Calls.mono (HAT.out _) ?_;rintro e w6 ⟨rfl,rfl⟩)
           | (go_at_call 14;refine Calls.mono (HS3.out _ (by first | exact (Below.refl _ _).drew | exact Below.refl _ _)) ?_;rintro e w7 ⟨v,X,rfl,hA7,hR7,hb7⟩;obtain ⟨an7,af7,ax7,ap7,aS7,cn7,cf7,cx7,cp7,cs7,rfl,hN7⟩:=hA7;unfold machV;have hrow9:=(hb7.block B18 HB8L.out).trans HROW8.out;obtain ⟨y0,y1,y2,y3,y4,yf⟩:=cells5C hrow9;have yf0:=yf 0;have yf1:=yf 1;have yf2:=yf 2;have yf3:=yf 3;have yf4:=yf 4;obtain ⟨L0,hL0⟩:∃ z,z=X.ns.length:=⟨_,rfl⟩;obtain ⟨L1,hL1⟩:∃ z,z=X.fs.length:=⟨_,rfl⟩;obtain ⟨L2,hL2⟩:∃ z,z=X.pipes.length:=⟨_,rfl⟩;obtain ⟨L3,hL3⟩:∃ z,z=X.ps.length:=⟨_,rfl⟩;obtain ⟨L4,hL4⟩:∃ z,z=X.sunk.length:=⟨_,rfl⟩;rw [<- hL0,<- hL1,<- hL2,<- hL3,<- hL4];have HL:Hid (L0=X.ns.length/\L1=X.fs.length/\L2=X.pipes.length/\L3=X.ps.length/\L4=X.sunk.length):=⟨hL0,hL1,hL2,hL3,hL4⟩;clear hL0 hL1 hL2 hL3 hL4 yf))
          all_goals
           have HF:Hid (Next ns fs room M m P0 B18 (k2+1) (stepN M j).2 (((((w7.setCell ⟨B18,0,none⟩ (.slice an7 L0 cn7)).setCell ⟨B18,1,none⟩ (.slice af7 L1 cf7)).setCell ⟨B18,2,none⟩ (.slice ax7 L2 cx7)).setCell ⟨B18,3,none⟩ (.slice ap7 L3 cp7)).setCell ⟨B18,4,none⟩ (.slice aS7 L4 cs7))):=(show Next _ _ _ _ _ _ _ _ _ _ from ⟨an7,af7,ax7,ap7,aS7,L0,L1,L2,L3,L4,cn7,cf7,cx7,cp7,cs7,box5_set hrow9,fun h=>by
            obtain ⟨l0,l1,l2,l3,l4⟩:=HL.out
            exact ⟨X,l0,l1,l2,l3,l4,(box_store (b:=B18) hN7 (by have:=HB8L.out;simpa using this) hrow9 (by rw [l0]) (by rw [l1]) (by rw [l2]) (by rw [l3]) (by rw [l4])).2,hR7 h⟩,fun h i hi=>by
            by_cases e:i < k2
            . exact HNO.out HE0.out i e
            . have:i=k2:=by omega
              rw [this,<- HJ.out]
              exact h⟩)
           have HG:Hid (Below w4.heap.size w4 (((((w7.setCell ⟨B18,0,none⟩ (.slice an7 L0 cn7)).setCell ⟨B18,1,none⟩ (.slice af7 L1 cf7)).setCell ⟨B18,2,none⟩ (.slice ax7 L2 cx7)).setCell ⟨B18,3,none⟩ (.slice ap7 L3 cp7)).setCell ⟨B18,4,none⟩ (.slice aS7 L4 cs7))):=(show Below _ _ _ from box5_below (hB5.out.trans (Below.mono (Below.trans ((Below.refl _ wr).drew) (hb7.mono (by simp))) hB5.out.size)) (by have:=HB18.out;omega))
           clear hrow9 hN7 hR7 hb7
           go_wp2_with fail
           go_roundw
           case rel=>exact ⟨k2+1,(stepN M j).2,by omega,by go_num,rfl,HF,HG⟩
           case measure=>simp [intOf];omega
        . have hall:k2=P0:=by omega
          exact absurd (HNE.out (fun j hj=>HNO.out hE0 j (by omega))) (by rw [HO.out];decide)
  . have e:k=K:=by omega
    subst e
    clear hMB
    go_wp2_with fail
    go_ret
    exact ⟨rfl,hBw.out⟩
theorem execLives_walk (V:World) (hE:KnownE V) (hsh:V.ShapedOpen Tryz.prog) (l:SLine) (af ad:Option Addr) (cf cd:Nat) (hf:Reads V (.slice af l.fr.length cf) l.fr.length (l.fr.map S)) (hd:RCmds V (.slice ad l.cs.length cd) l.cs) (hfit:FitsL l) (hzl:ad=none->cd=0) (W:Int) (hW:-9223372036854775808<=W/\W<=9223372036854775807) (ao:Option Addr) (cap:Nat) (fs:List SFile) (hfs:RFiles V (.slice ao fs.length cap) fs) (hff:∀ f ∈ fs,FitsF f) (hz:ao=none->cap=0) (room:Int) (hroom:-9223372036854775808<=room/\room<=9223372036854775807) (aq:Option Addr) (cq:Nat) (pk:List Int) (hq:Reads V (.slice aq pk.length cq) pk.length (pk.map (Value.int .i64))) (hpk:∀ z ∈ pk,-9223372036854775808<=z/\z<=9223372036854775807) :
 Calls Tryz.prog 6 #[.agg #[.slice af l.fr.length cf,.slice ad l.cs.length cd,.string ⟨l.tu.toArray⟩],.int .i64 W,.slice ao fs.length cap,.int .i64 room,.slice aq pk.length cq] V fun e w'=>e=.returned (.bool true)/\Below V.heap.size V w':=by
 by_cases h:(planT l W).2=0/\(newS (planT l W).1 fs room).2=0
 . exact lives_ok l W room fs pk af ad ao aq cf cd cap cq V hf hd hfit hfs hff hq hpk hE h.1 h.2
 . exact lives_bad l W room fs pk af ad ao aq cf cd cap cq V hf hd hfit hfs hff hq hpk hE h
end Go.Proofs.YtllgglolcgdehaaGreatDoor
