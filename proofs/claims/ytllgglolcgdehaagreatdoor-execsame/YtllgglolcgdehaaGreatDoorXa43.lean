/- What the laws on machines stand on, and more. -/
import Derived.Deep.SlicePairs
import Derived.Test.YtllgglolcgdehaaGreatDoorXa42
import Derived.Test.YtllgglolcgdehaaGreatDoorXa38
set_option maxRecDepth 100000
set_option maxHeartbeats 16000000
namespace Go.Proofs.YtllgglolcgdehaaGreatDoor
open Go.RowKit Go.Gs Go.Maps
set_option linter.unusedVariables false
theorem lover1_is:NotOver 97:=by
 intro a n c pos a' n' c' rd o w
 go_enter Tryz.func97,Tryz.ntmps97
 go_wp2_with fail
 go_ret
 exact⟨rfl,boxE⟩
theorem lover_is (an af ax ap aS:Option Addr) (cn cf cx cp cs:Nat) (M:SMach) (w:World) (h:RMach w an af ax ap aS cn cf cx cp cs M) :
 Calls Tryz.prog 31 #[machV an af ax ap aS M cn cf cx cp cs] w fun e w'=>e=.returned (.bool (overS M))/\Below w.heap.size w w':=by
 have HC:Hid (∀W,Below w.heap.size w W->Calls Tryz.prog 96 #[.slice ap M.ps.length cp,.func (.func 97) #[] #[]] W fun e w'=>e=.returned (.bool (!M.ps.all (fun p=>p.ov)))/\Below W.heap.size W w'):=(show ∀W,_ from fun W hW=>containsP_is _ lover1_is (enters_of Tryz.func97 (by kernel_rfl) rfl) ap cp M.ps W (h.procs.below hW))
 have e1:overS M=M.ps.all (fun p=>p.ov):=rfl
 rw[e1]
 unfold machV
 generalize M.ps.all (fun p=>p.ov)=A at *
 generalize M.ns.length=NN at *
 generalize M.fs.length=NF at *
 generalize M.pipes.length=NX at *
 generalize M.ps.length=NP at *
 generalize M.sunk.length=NS at *
 clear h e1
 go_enter Tryz.func31,Tryz.ntmps31
 go_wp2_with fail
 refine Calls.mono (HC.out _ box_of) ?_
 rintro e w1 ⟨rfl,hb⟩
 have HB:Hid (Below w.heap.size w w1):=Below.trans (box_of (w:=w)) (hb.mono (by simp))
 clear hb HC
 cases A
 all_goals
  go_wp2_with fail
  go_ret
  exact⟨rfl,HB.out⟩
theorem box5_set {w:World} {b:Nat} {a0 a1 a2 a3 a4 v0 v1 v2 v3 v4:Value} {t:TypeId} (h:w.heap[b]? = some (.cells #[a0,a1,a2,a3,a4] t (0,0))) :
 (((((w.setCell ⟨b,0,none⟩ v0).setCell ⟨b,1,none⟩ v1).setCell ⟨b,2,none⟩ v2).setCell ⟨b,3,none⟩ v3).setCell ⟨b,4,none⟩ v4).heap[b]? = some (.cells #[v0,v1,v2,v3,v4] t (0,0)):=by
 have step:∀(W:World) (cur:Array Value) (j:Nat) (v:Value),W.heap[b]? = some (.cells cur t (0,0))->(W.setCell ⟨b,j,none⟩ v).heap[b]? = some (.cells (cur.setIfInBounds j v) t (0,0)):=fun W cur j v hW=>by
  rw[setCell_eq_setRow W b j cur t (0,0) v hW]
  exact setRow_heap W b cur _ t (0,0) hW
 exact step _ _ 4 _ (step _ _ 3 _ (step _ _ 2 _ (step _ _ 1 _ (step _ _ 0 _ h))))
theorem box5_other {w:World} {b k:Nat} {v0 v1 v2 v3 v4:Value} (hk:k≠b) :
 (((((w.setCell ⟨b,0,none⟩ v0).setCell ⟨b,1,none⟩ v1).setCell ⟨b,2,none⟩ v2).setCell ⟨b,3,none⟩ v3).setCell ⟨b,4,none⟩ v4).heap[k]? = w.heap[k]?:=by
 rw[Below.heap_setCell _ _ _ _ hk,Below.heap_setCell _ _ _ _ hk,Below.heap_setCell _ _ _ _ hk,Below.heap_setCell _ _ _ _ hk,Below.heap_setCell _ _ _ _ hk]
theorem box5_below {w w0:World} {B b:Nat} {v0 v1 v2 v3 v4:Value} (h:Below B w0 w) (hb:B<=b) :
 Below B w0 (((((w.setCell ⟨b,0,none⟩ v0).setCell ⟨b,1,none⟩ v1).setCell ⟨b,2,none⟩ v2).setCell ⟨b,3,none⟩ v3).setCell ⟨b,4,none⟩ v4):=((((h.setCell hb _).setCell hb _).setCell hb _).setCell hb _).setCell hb _
def BoxM (w:World) (b:Nat) (M:SMach):Prop:=∃an af ax ap aS cn cf cx cp cs,w.heap[b]? = some (.cells #[.slice an M.ns.length cn,.slice af M.fs.length cf,.slice ax M.pipes.length cx,.slice ap M.ps.length cp,.slice aS M.sunk.length cs] 30 (0,0))/\RMach w an af ax ap aS cn cf cx cp cs M
theorem only5 {w:World} {b:Nat} {a1 a2 a3 a4 a5:Option Addr} {n1 n2 n3 n4 n5 c1 c2 c3 c4 c5:Nat} {t:TypeId} (h:w.heap[b]? = some (.cells #[.slice a1 n1 c1,.slice a2 n2 c2,.slice a3 n3 c3,.slice a4 n4 c4,.slice a5 n5 c5] t (0,0))):OnlySl w b:=by
 intro j u hu
 rw[cell_of_row _ _ _ _ _ _ h] at hu
 have:j=0\/j=1\/j=2\/j=3\/j=4\/5<=j:=by omega
 rcases this with rfl | rfl | rfl | rfl | rfl | hj
 all_goals first | (simp at hu;exact⟨_,_,_,hu.symm⟩) | (rw[Array.getElem?_eq_none (by simpa using hj)] at hu;cases hu)
theorem box_store {w:World} {B b:Nat} {M:SMach} {an af ax ap aS a1 a2 a3 a4 a5:Option Addr} {cn cf cx cp cs n1 n2 n3 n4 n5 c1 c2 c3 c4 c5:Nat} (hN:NewRM B w an af ax ap aS cn cf cx cp cs M) (hb:b<B)
 (h:w.heap[b]? = some (.cells #[.slice a1 n1 c1,.slice a2 n2 c2,.slice a3 n3 c3,.slice a4 n4 c4,.slice a5 n5 c5] 30 (0,0))) {v0 v1 v2 v3 v4:Value} (e0:v0=.slice an M.ns.length cn) (e1:v1=.slice af M.fs.length cf) (e2:v2=.slice ax M.pipes.length cx) (e3:v3=.slice ap M.ps.length cp) (e4:v4=.slice aS M.sunk.length cs) :
 BoxM (((((w.setCell ⟨b,0,none⟩ v0).setCell ⟨b,1,none⟩ v1).setCell ⟨b,2,none⟩ v2).setCell ⟨b,3,none⟩ v3).setCell ⟨b,4,none⟩ v4) b M/\NewRM b (((((w.setCell ⟨b,0,none⟩ v0).setCell ⟨b,1,none⟩ v1).setCell ⟨b,2,none⟩ v2).setCell ⟨b,3,none⟩ v3).setCell ⟨b,4,none⟩ v4) an af ax ap aS cn cf cx cp cs M:=by
 have h2:=machNew_of (B:=b) (wf:=(((((w.setCell ⟨b,0,none⟩ v0).setCell ⟨b,1,none⟩ v1).setCell ⟨b,2,none⟩ v2).setCell ⟨b,3,none⟩ v3).setCell ⟨b,4,none⟩ v4)) hN hb (only5 h) (Nat.le_refl _) (by simp) (fun k hk=>box5_other hk)
 refine⟨⟨an,af,ax,ap,aS,cn,cf,cx,cp,cs,?_,h2.self⟩,h2⟩
 rw[box5_set h,e0,e1,e2,e3,e4]
theorem plan_reach {l:SLine} {W room:Int} {fs:List SFile} (h1:(planT l W).2=0) (h2:(newS (planT l W).1 fs room).2=0) :
 gchk (planT l W).1=0/\fchk fs=0/\Bounded (planT l W).1 fs/\1<=room/\room<=1000/\newS (planT l W).1 fs room=(freshM (planT l W).1 fs room,0)/\Go.Gs.Reach (planT l W).1 fs room (freshM (planT l W).1 fs room)/\lchk l=0/\(1<=W/\W<=5)/\(planT l W).1=plan l W.toNat:=by
 have hp:lchk l=0 /\ ¬(W<1\/5<W):=by
  unfold planT at h1
  split at h1
  . rename_i h;exact absurd h1 h
  . split at h1
    . cases h1
    . rename_i h3 h4
      exact⟨by simpa using h3,h4⟩
 have e:=planT_ok hp.1 hp.2
 have hw:1<=W.toNat/\W.toNat<=5:=by omega
 rw[e] at h2 ⊢
 simp only at h2 ⊢
 have hg:=plan_right hw hp.1
 have hn:fchk fs=0 /\ ¬(room<1\/1000<room):=by
  unfold newS at h2
  rw[if_neg (by simp[hg])] at h2
  split at h2
  . rename_i h;exact absurd h2 h
  . split at h2
    . cases h2
    . rename_i h3 h4
      exact⟨by simpa using h3,h4⟩
 have hsz:∀f∈fs,f.b.length<=4000:=fun f hf=>(from_all (fchk_zero hn.1).2 f hf).2
 refine⟨hg,hn.1,bounded_plan hw hp.1 hsz,by omega,by omega,?_,Go.Gs.Reach.fresh (right_graph hg) (by omega) (by omega),hp.1,by omega,trivial⟩
 unfold newS
 rw[if_neg (by simp[hg]),if_neg (by simp[hn.1]),if_neg hn.2]
def Zs (l:List Int):List Value:=l.map (fun e=>Value.int .i64 e)
def SaidG (b:Nat) (l:List Int) (w:World) (O:Nat->Option Own):Prop:=w.heap[b]? = some (.cells (Zs l).toArray 32 (0,0))/\O b=some .aux
theorem saidG_ok (b:Nat) (l:List Int):AuxOk (SaidG b l):=by
 intro w w' O O' h hk hO
 exact⟨(hk b h.2).trans h.1,(hO b _ h.2).trans h.2⟩
theorem said_start {w:World} {D r n:Nat} {M:SMach} (h:RunAt NoG w D r M):RunAt (SaidG w.heap.size (List.replicate n 0)) (w.alloc (.cells (Zs (List.replicate n 0)).toArray 32)) D r M/\D<=w.heap.size:=by
 obtain⟨O,d,h1,hM⟩:=h
 have hb:Below w.heap.size w (w.alloc (.cells (Zs (List.replicate n 0)).toArray 32)):=(Below.refl _ w).alloc (Nat.le_refl _) _
 have h2:RMem (w.alloc (.cells (Zs (List.replicate n 0)).toArray 32)) D r (fun k=>if k=w.heap.size then some .aux else O k) _ d:=RMem.grow h1 hb (fun k hk=>if_neg (by omega)) (fun g o hg hge=>by
  by_cases e:g=w.heap.size
  . simp[e]
  . simp only[if_neg e] at hg
    exact absurd (h1.lo g o hg).2 (by omega))
 exact⟨⟨_,d,RMem.auxTo h2 (auxG_ok _ _ _ _ (saidG_ok _ _)) ⟨(h2.part .aux).1,heap_alloc_new _ _,by simp⟩,hM⟩,RMem.le h1⟩
theorem said_set {w:World} {D r b k:Nat} {l:List Int} {M:SMach} {e:Int} (h:RunAt (SaidG b l) w D r M):RunAt (SaidG b (l.set k e)) (w.setCell ⟨b,k,none⟩ (.int .i64 e)) D r M/\D<=b:=by
 obtain⟨O,d,h1,hM⟩:=h
 obtain⟨⟨a1,a2,bm,nm,a3,a4,a5⟩,s1,s2⟩:=h1.part .aux
 have hD:=(h1.lo _ _ s2).1
 have hrb:r≠b:=fun e=>by have:=h1.box.2;rw[e,s2] at this;exact absurd this (by simp)
 have hbm:bm≠b:=fun e=>by
  obtain⟨_,⟨es,clock,m1,_⟩,_⟩:=a4
  rw[e,s1] at m1
  exact absurd m1 (by simp)
 have hI:∀g,d.vI.ownBlock=some g->g≠b:=fun g hg e=>by
  rcases a1.2 with ⟨q,_⟩ | ⟨g',cap,cur,q1,_,q3,_⟩
  . rw[q] at hg;simp[Value.ownBlock] at hg
  . rw[q1] at hg
    simp[Value.ownBlock] at hg
    rw[hg,e,s1] at q3
    exact absurd q3 (by simp)
 have hrow:(w.setCell ⟨b,k,none⟩ (.int .i64 e)).heap[b]? = some (.cells (Zs (l.set k e)).toArray 32 (0,0)):=by
  rw[setCell_eq_setRow w b k _ _ (0,0) _ s1,setRow_heap w b _ _ _ _ s1]
  unfold Zs
  rw[List.map_set]
  simp
 have h2:=RMem.swap (A':=fun w O=>AuxF D d.vI d.vM d.M.ns w O/\SaidG b (l.set k e) w O) h1 (w':=w.setCell ⟨b,k,none⟩ (.int .i64 e)) (O':=O) d.vI rfl rfl rfl (by simp) (fun j _ _ hj=>Below.heap_setCell _ _ _ _ (fun q=>hj (by rw[q];exact s2))) (fun _ _=>rfl) (fun g o hg=>by have:=h1.lo g o hg;exact⟨this.1,by simpa using this.2⟩)
  ((Below.heap_setCell _ _ _ _ hrb).trans h1.box.1) (auxG_ok _ _ _ _ (saidG_ok _ _)) ⟨⟨ownsRow_keep a1 (fun g hg=>Below.heap_setCell _ _ _ _ (hI g hg)),a2,bm,nm,a3,a4.keep (Below.heap_setCell _ _ _ _ hbm),a5⟩,hrow,s2⟩
 exact⟨⟨O,d,h2,hM⟩,hD⟩
theorem RunAt.said {w:World} {D r b:Nat} {l:List Int} {M:SMach} (h:RunAt (SaidG b l) w D r M):w.heap[b]? = some (.cells (Zs l).toArray 32 (0,0))/\D<=b/\b≠r:=by
 obtain⟨O,d,h1,hM⟩:=h
 obtain⟨_,s1,s2⟩:=h1.part .aux
 exact⟨s1,(h1.lo _ _ s2).1,fun e=>by have:=h1.box.2;rw[<- e,s2] at this;exact absurd this (by simp)⟩
theorem said_cell {w:World} {b k:Nat} {l:List Int} {t:TypeId} (h:w.heap[b]? = some (.cells (Zs l).toArray t (0,0))) (hk:k<l.length):w.cell? ⟨b,k,none⟩=some (.int .i64 (l[k]'hk))/\w.frozen? ⟨b,k,none⟩=false:=by
 constructor
 . simp[World.cell?,h,Zs,hk]
 . simp[World.frozen?,h]
theorem said_reads {w:World} {b:Nat} {l:List Int} {t:TypeId} (h:w.heap[b]? = some (.cells (Zs l).toArray t (0,0))) (hl:l.length<=40000):Reads w (.slice (some ⟨b,0,none⟩) l.length l.length) l.length (Zs l):=by
 refine⟨by simp[Zs],some ⟨b,0,none⟩,l.length,rfl,Nat.le_refl _,by unfold maxLen;omega,fun _=>⟨b,0,rfl,fun j u hj=>?_⟩⟩
 simp only[Nat.zero_add]
 simp[World.cell?,h,hj]
theorem readsE_le {w:World} {ao:Option Addr} {n cap:Nat} {xs:List Value} (h:Reads w (.slice ao n cap) n xs):n<=cap/\cap<=9223372036854775807:=by
 obtain⟨_,ao',c,e,h1,h2,_⟩:=h
 unfold maxLen at h2
 injection e with e1 e2 e3
 omega
theorem readsE_at {w:World} {ao:Option Addr} {n cap:Nat} {xs:List Value} (h:Reads w (.slice ao n cap) n xs) {j:Nat} {u:Value} (hj:xs[j]? = some u):∃b off,ao=some ⟨b,off,none⟩/\w.cell? ⟨b,off+j,none⟩=some u:=by
 obtain⟨hl,ao',c,e,h1,h2,h3⟩:=h
 injection e with e1 e2 e3
 subst e1
 have:=(gSm hj).1
 obtain⟨b,off,q,hc⟩:=h3 (by omega)
 exact⟨b,off,q,hc j u hj⟩
theorem picksS_snoc:∀(l:List Int) (M:SMach) (i:Int),picksS M (l++[i])=((stepS (picksS M l).1 i).1,(picksS M l).2++[(stepS (picksS M l).1 i).2])
 | [],M,i=>rfl
 | a::l,M,i=>by
  show ((picksS (stepS M a).1 (l++[i])).1,(stepS M a).2::(picksS (stepS M a).1 (l++[i])).2)=_
  rw[picksS_snoc l]
  rfl
theorem picksS_len:∀(l:List Int) (M:SMach),(picksS M l).2.length=l.length
 | [],M=>rfl
 | a::l,M=>by
  show (_::(picksS (stepS M a).1 l).2).length=_
  rw[List.length_cons,picksS_len l,List.length_cons]
theorem InvM.stepS {ns:List SNode} {fs:List SFile} {I:SMach->Prop} (h:InvM ns fs I) {M:SMach} (hM:I M) (i:Int):I (stepS M i).1:=by
 unfold Go.Gs.stepS
 split
 . exact hM
 . exact h.step M _ hM
theorem InvM.picks {ns:List SNode} {fs:List SFile} {I:SMach->Prop} (h:InvM ns fs I):∀(l:List Int) (M:SMach),I M->I (picksS M l).1
 | [],M,hM=>hM
 | i::l,M,hM=>h.picks l _ (h.stepS hM i)
theorem said_next {M:SMach} {l:List Int} {k n:Nat} {i:Int} (hn:n=l.length) (hk:k<n) (hi:l[k]? = some i):(((picksS M (l.take k)).2++List.replicate (n-k) 0).set k (stepS (picksS M (l.take k)).1 i).2)=(picksS M (l.take (k+1))).2++List.replicate (n-(k+1)) 0/\(picksS M (l.take (k+1))).1=(stepS (picksS M (l.take k)).1 i).1:=by
 have e1:l.take (k+1)=l.take k++[i]:=by rw[List.take_add_one,hi];rfl
 have e2:(picksS M (l.take k)).2.length=k:=by rw[picksS_len,List.length_take];omega
 have e3:List.replicate (n-k) (0:Int)=0::List.replicate (n-(k+1)) 0:=by
  rw[<- List.replicate_succ]
  congr 1
  omega
 rw[e1,picksS_snoc]
 refine⟨?_,rfl⟩
 rw[e3,List.set_append_right _ _ (by omega),e2,Nat.sub_self]
 simp
def runR (M:SMach) (l:List Int):SMach × List Int × Int:=if mchk M≠0 then (zeroM,[],mchk M) else if 40000<l.length then (zeroM,[],2) else ((picksS M l).1,(picksS M l).2,0)
theorem infoErrnoE:(Tryz.prog.info? 32).map (fun i=>(i.zero,i.size,i.bytes))=some (some (.int .i64 0),1,8):=by kernel_rfl
theorem RunE_is (an af ax ap aS aq:Option Addr) (cn cf cx cp cs cq:Nat) (M:SMach) (l:List Int) (w:World) (h:RMach w an af ax ap aS cn cf cx cp cs M) (hq:Reads w (.slice aq l.length cq) l.length (Zs l)) (hfit:FitsM M) (hE:∀W,Below w.heap.size w W->KnownE W)
 (I:SMach->Prop) (hI:mchk M=0->InvM M.ns M.fs I) (hM:mchk M=0->I M) :
 Calls Tryz.prog 24 #[machV an af ax ap aS M cn cf cx cp cs,.slice aq l.length cq] w fun e w'=>∃v s,e=.returned (.tuple #[v,s,.int .i64 (runR M l).2.2])/\MachNew w.heap.size w' v (runR M l).1/\Reads w' s (runR M l).2.1.length (Zs (runR M l).2.1)/\Below w.heap.size w w':=by
 have HCK:Hid (∀W,Below w.heap.size w W->Calls Tryz.prog 18 #[machV an af ax ap aS M cn cf cx cp cs] W fun e w'=>e=.returned (.int .i64 (mchk M))/\Below W.heap.size W w'):=(show ∀W,_ from fun W hW=>mcheckA_is an af ax ap aS cn cf cx cp cs M W (h.below hW) hfit)
 have HST:Hid (mchk M=0 -> ∀W,Below w.heap.size w W->Calls Tryz.prog 56 #[machV an af ax ap aS M cn cf cx cp cs] W fun e w'=>∃D r,e=.returned (.pointer (some ⟨r,0,none⟩))/\RunAt NoG w' D r M/\W.heap.size<=D/\Below W.heap.size W w'):=(show mchk M=0 -> ∀W,_ from fun h0 W hW=>by
  obtain⟨q1,q2,q3⟩:=mchk_zero h0
  exact started_is an af ax ap aS cn cf cx cp cs M W (h.below hW) (smallC_of q1 (fun p hp=>⟨fun b hb=>by have:=(q2 p hp).1 b hb;omega,fun b hb=>by have:=(q2 p hp).2 b hb;omega⟩) (by omega)) q1 hfit.nodes)
 have HSP:Hid (mchk M=0 -> ∀(b:Nat) (L:List Int) (D r:Nat) (M':SMach) (i:Int) (W:World),RunAt (SaidG b L) W D r M'->I M'->w.heap.size<=D->Below w.heap.size w W->Calls Tryz.prog 57 #[.pointer (some ⟨r,0,none⟩),.int .i64 i] W fun e w'=>e=.returned (.int .i64 (stepS M' i).2)/\RunAt (SaidG b L) w' D r (stepS M' i).1/\Below D W w'):=(show mchk M=0 -> ∀(b:Nat) (L:List Int) (D r:Nat) (M':SMach) (i:Int) (W:World),_ from fun h0 b L D r M' i W hR hI' hD hW=>by
  obtain⟨O,d,hR1,rfl⟩:=hR
  exact stepE_is D r O d i W hR1 ((hI h0).shape _ hI') (by rw[((hI h0).nodes _ hI').1];exact hfit.nodes) ((hI h0).small _ hI') (fun V hV=>hE V (hW.trans (hV.mono hD))))
 have HTO:Hid (mchk M=0 -> ∀k,I (picksS M (l.take k)).1):=(show mchk M=0 -> ∀k,_ from fun h0 k=>(hI h0).picks _ _ (hM h0))
 have HQ:Hid (Reads w (.slice aq l.length cq) l.length (Zs l)):=hq
 have hle:=readsE_le hq
 unfold machV at HCK HST ⊢
 obtain⟨RES,hRES⟩:∃z,z=runR M l:=⟨_,rfl⟩
 rw[<- hRES]
 unfold runR at hRES
 obtain⟨n,hn⟩:∃z,z=l.length:=⟨_,rfl⟩
 have HN:Hid (n=l.length):=hn
 rw[<- hn] at HQ hle hRES ⊢
 generalize M.ns.length=NN at *
 generalize M.fs.length=NF at *
 generalize M.pipes.length=NX at *
 generalize M.ps.length=NP at *
 generalize M.sunk.length=NS at *
 clear h hfit hE hI hM hq hn
 by_cases h0:mchk M=0
 .
  have HST2:Hid _:=HST.out h0
  have HSP2:Hid _:=HSP.out h0
  have HTO2:Hid _:=HTO.out h0
  rw[if_neg (by simpa using h0)] at hRES
  rw[h0] at HCK
  clear HST HSP HTO h0
  by_cases h4:40000<n
  .
   have HRES:Hid (RES=(zeroM,[],2)):=(show _=_ by rw[hRES,if_pos h4])
   clear hRES
   go_enter Tryz.func24,Tryz.ntmps24
   go_wp2_with fail
   obtain⟨W0,hW0⟩:∃W,W=(w.alloc (.cells #[.slice an NN cn,.slice af NF cf,.slice ax NX cx,.slice ap NP cp,.slice aS NS cs] 30)).alloc (.cells #[.slice none 0 0,.slice none 0 0,.slice none 0 0,.slice none 0 0,.slice none 0 0] 30):=⟨_,rfl⟩
   rw[<- hW0]
   have hB0:Below w.heap.size w W0:=by rw[hW0];exact ((Below.refl _ w).alloc (Nat.le_refl _) _).alloc (by simp) _
   have hX0:BX W0 w.heap.size (.slice an NN cn) (.slice af NF cf) (.slice ax NX cx) (.slice ap NP cp) (.slice aS NS cs):=by
    rw[hW0]
    exact⟨heap_alloc2_old _ _ _,heap_alloc2_new _ _ _⟩
   refine Calls.mono (HCK.out W0 hB0) ?_
   rintro e w1 ⟨rfl,hb1⟩
   have HB1:Hid (Below w.heap.size w w1):=hB0.trans (hb1.mono hB0.size)
   have hX1:=BX.below hX0 hb1
   obtain⟨y0,y1,y2,y3,y4,yf⟩:=cells5C hX1.2
   have yf0:=yf 0
   have yf1:=yf 1
   have yf2:=yf 2
   have yf3:=yf 3
   have yf4:=yf 4
   clear hW0 hB0 hX0 hb1 hX1 HCK yf HST2 HSP2 HTO2 HQ
   go_wp2_with fail
   (try simp only[Exit.inBlock,Exit.then])
   refine bodyPost_ret (v:=.tuple #[.agg #[.slice none 0 0,.slice none 0 0,.slice none 0 0,.slice none 0 0,.slice none 0 0],.slice none 0 0,.int .i64 2]) ?_ rfl ?_
   . rw[results_cell_tmp2P rfl]
     go_simp
   . rw[HRES.out]
     exact⟨_,_,rfl,MachNew.zero _ _,rnil,by repeat (first | refine Below.setCell ?_ (by simp) _ | exact HB1.out)⟩
  .
   have HRES:Hid (RES=((picksS M l).1,(picksS M l).2,0)):=(show _=_ by rw[hRES,if_neg h4])
   clear hRES
   go_enter Tryz.func24,Tryz.ntmps24
   go_wp2_with fail
   obtain⟨W0,hW0⟩:∃W,W=(w.alloc (.cells #[.slice an NN cn,.slice af NF cf,.slice ax NX cx,.slice ap NP cp,.slice aS NS cs] 30)).alloc (.cells #[.slice none 0 0,.slice none 0 0,.slice none 0 0,.slice none 0 0,.slice none 0 0] 30):=⟨_,rfl⟩
   rw[<- hW0]
   have hB0:Below w.heap.size w W0:=by rw[hW0];exact ((Below.refl _ w).alloc (Nat.le_refl _) _).alloc (by simp) _
   have hX0:BX W0 w.heap.size (.slice an NN cn) (.slice af NF cf) (.slice ax NX cx) (.slice ap NP cp) (.slice aS NS cs):=by
    rw[hW0]
    exact⟨heap_alloc2_old _ _ _,heap_alloc2_new _ _ _⟩
   refine Calls.mono (HCK.out W0 hB0) ?_
   rintro e w1 ⟨rfl,hb1⟩
   have HB1:Hid (Below w.heap.size w w1):=hB0.trans (hb1.mono hB0.size)
   have hX1:=BX.below hX0 hb1
   obtain⟨x0,x1,x2,x3,x4,_⟩:=cells5C hX1.1
   have HX1:Hid (BX w1 w.heap.size (.slice an NN cn) (.slice af NF cf) (.slice ax NX cx) (.slice ap NP cp) (.slice aS NS cs)):=hX1
   clear hW0 hB0 hX0 hb1 hX1 HCK
   go_wp2_with fail
   refine Calls.mono (HST2.out w1 HB1.out) ?_
   rintro e w2 ⟨D,r,rfl,hR2,hD,hb2⟩
   have hB2:Below w.heap.size w w2:=HB1.out.trans (hb2.mono HB1.out.size)
   have hX2:BX w2 w.heap.size (.slice an NN cn) (.slice af NF cf) (.slice ax NX cx) (.slice ap NP cp) (.slice aS NS cs):=BX.below HX1.out hb2
   have HDX:Hid (w.heap.size+2<=D):=(show _<=_ by have:=BX.lt HX1.out;omega)
   obtain⟨hR3,hD3⟩:=said_start (n:=n) hR2
   obtain⟨i0,hi,hi0,hi1,hi2⟩:=info_parts infoErrnoE
   have hmk:∀(W:World),(Instr.makeSlice 46 (.int .i64 (n:Int)) (.int .i64 (n:Int))).run Tryz.prog W=.ok (.slice (some ⟨W.heap.size,0,none⟩) n n) (W.alloc (.cells (Zs (List.replicate n 0)).toArray 32)):=fun W=>by
    have:=run_makeSlice (P:=Tryz.prog) W 46 32 i0 (.int .i64 0) Tryz.underlying46 hi hi0 .i64 .i64 (n:Int) (n:Int) (by omega) (by omega) (by rw[hi1];omega) (by rw[hi2];omega) (by omega)
    rw[hi1,Int.toNat_natCast,Nat.mul_one] at this
    rw[this]
    have e:madeCells (Value.int .i64 0).cells n=(Zs (List.replicate n 0)).toArray:=by
     apply Array.toList_inj.1
     have h1:=toList_madeCells_one (.int .i64 0) n
     show (madeCells #[Value.int .i64 0] n).toList=_
     rw[h1]
     simp[Zs]
    rw[e]
   obtain⟨B,hB⟩:∃z,z=w2.heap.size:=⟨_,rfl⟩
   obtain⟨W3,hW3⟩:∃z,z=w2.alloc (.cells (Zs (List.replicate n 0)).toArray 32):=⟨_,rfl⟩
   have hb3:Below w2.heap.size w2 W3:=by rw[hW3];exact (Below.refl _ w2).alloc (Nat.le_refl _) _
   have HR3:Hid (RunAt (SaidG B (List.replicate n 0)) W3 D r M):=(show RunAt _ _ _ _ _ by rw[hB,hW3];exact hR3)
   have HB3:Hid (Below w.heap.size w W3):=hB2.trans (hb3.mono hB2.size)
   have HX3:Hid (BX W3 w.heap.size (.slice an NN cn) (.slice af NF cf) (.slice ax NX cx) (.slice ap NP cp) (.slice aS NS cs)):=BX.below hX2 hb3
   have hmk2:(Instr.makeSlice 46 (.int .i64 (n:Int)) (.int .i64 (n:Int))).run Tryz.prog w2=.ok (.slice (some ⟨B,0,none⟩) n n) W3:=by rw[hmk w2,hB,hW3]
   clear hR2 hD hb2 hX2 HX1 x0 x1 x2 x3 x4 HST2 hmk hR3 hD3 hW3 hb3 hB2 hB hi hi0 hi1 hi2
   go_wp2_with fail
   clear hmk2
   go_loopw [29] (fun z wr=>∃k:Nat,k<=n/\z=.int .i64 k/\Hid (RunAt (SaidG B ((picksS M (l.take k)).2++List.replicate (n-k) 0)) wr D r (picksS M (l.take k)).1)/\Hid (BX wr w.heap.size (.slice an NN cn) (.slice af NF cf) (.slice ax NX cx) (.slice ap NP cp) (.slice aS NS cs))/\Hid (Below w.heap.size w wr)) (fun z _=>n-(intOf z).toNat)
   case atStart=>exact⟨0,Nat.zero_le _,rfl,HR3,HX3,HB3⟩
   case round=>
    obtain⟨k,hk,rfl,hR,hX,hBw⟩:=hrel
    clear HR3 HX3 HB3
    by_cases hlt:k<n
    .
     obtain⟨i,hi⟩:∃i,l[k]? = some i:=⟨_,gEl (by have:=HN.out;omega)⟩
     obtain⟨bq,oq,rfl,hcq⟩:=readsE_at (HQ.out.below hBw.out) (j:=k) (u:=.int .i64 i) (by simp[Zs,hi])
     have HC:Hid _:=HSP2.out B _ D r _ i wr hR.out (HTO2.out k) (by have:=HDX.out;omega) hBw.out
     have HNX:Hid _:=said_next (M:=M) HN.out hlt hi
     obtain⟨E,hEe⟩:∃z,z=(stepS (picksS M (l.take k)).1 i).2:=⟨_,rfl⟩
     rw[<- hEe] at HC HNX
     clear hR hi hEe
     go_wp2_with fail
     refine Calls.mono HC.out ?_
     rintro e w3 ⟨rfl,hR3,hb3⟩
     obtain⟨s1,s2,s3⟩:=hR3.said
     have hll:((picksS M (l.take k)).2++List.replicate (n-k) (0:Int)).length=n:=by
      rw[List.length_append,picksS_len,List.length_take,List.length_replicate]
      have:=HN.out
      omega
     obtain⟨c0,c1⟩:=said_cell (k:=k) s1 (by rw[hll];exact hlt)
     have HR4:Hid (RunAt (SaidG B ((picksS M (l.take (k+1))).2++List.replicate (n-(k+1)) 0)) (w3.setCell ⟨B,k,none⟩ (.int .i64 E)) D r (picksS M (l.take (k+1))).1):=(show RunAt _ _ _ _ _ by
      rw[<- HNX.out.1,HNX.out.2]
      exact (said_set hR3).1)
     have HB4:Hid (Below w.heap.size w (w3.setCell ⟨B,k,none⟩ (.int .i64 E))):=(show Below _ _ _ from Below.setCell (hBw.out.trans (hb3.mono (by have:=HDX.out;omega))) (show w.heap.size<=B by have:=HDX.out;omega) _)
     have HX4:Hid (BX (w3.setCell ⟨B,k,none⟩ (.int .i64 E)) w.heap.size (.slice an NN cn) (.slice af NF cf) (.slice ax NX cx) (.slice ap NP cp) (.slice aS NS cs)):=(show BX _ _ _ _ _ _ _ from BX.other (BX.keep hX.out (fun j hj=>hb3.block j (by have:=HDX.out;omega))) (show w.heap.size+1<B by have:=HDX.out;omega))
     generalize ((picksS M (l.take k)).2++List.replicate (n-k) (0:Int))[k]'(by rw[hll];exact hlt)=cold at c0
     clear hR3 hb3 HC s1 s2 s3 hll
     go_wp2_with fail
     go_roundw
     case rel=>exact⟨k+1,by omega,by go_num,HR4,HX4,HB4⟩
     case measure=>simp[intOf];omega
    .
     have e:k=n:=by omega
     subst e
     have HTK:Hid (l.take k=l):=(show _=_ from List.take_of_length_le (by have:=HN.out;omega))
     have hR3:RunAt (SaidG B (picksS M l).2) wr D r (picksS M l).1:=by
      have:=hR.out
      rw[HTK.out,Nat.sub_self] at this
      simpa using this
     obtain⟨s1,s2,s3⟩:=hR3.said
     obtain⟨hrD,bn,bf,bx,bp,bS,dn,df,dx,dp,ds,vI,vM,hbox,hRM⟩:=RunAt.machX hR3
     have hX3:=hX.out
     have HRM:Hid (∀(w':World),w'.heap.size=wr.heap.size->(∀k,k≠w.heap.size+1->w'.heap[k]? = wr.heap[k]?)->NewRM w.heap.size w' bn bf bx bp bS dn df dx dp ds (picksS M l).1):=(show ∀(w':World),_ from fun w' h1 h2=>machNew_of hRM (by have:=HDX.out;omega) (only_of hX3) (by omega) h1 h2)
     have HSD:Hid (∀(w':World),(∀k,k≠w.heap.size+1->w'.heap[k]? = wr.heap[k]?)->Reads w' (.slice (some ⟨B,0,none⟩) k k) (picksS M l).2.length (Zs (picksS M l).2)):=(show ∀(w':World),_ from fun w' h2=>by
      have e1:(picksS M l).2.length=k:=by rw[picksS_len];exact HN.out.symm
      have:=said_reads (w:=w') (l:=(picksS M l).2) ((h2 B (by have:=HDX.out;omega)).trans s1) (by omega)
      rw[e1] at this ⊢
      exact this)
     obtain⟨c0,c1,c2,c3,c4,_,_⟩:=cells7 hbox
     have hrw:r≠w.heap.size+1:=by have:=HDX.out;omega
     have hrw':w.heap.size+1≠r:=by omega
     obtain⟨y0,y1,y2,y3,y4,yf⟩:=cells5C hX3.2
     have yf0:=yf 0
     have yf1:=yf 1
     have yf2:=yf 2
     have yf3:=yf 3
     have yf4:=yf 4
     generalize hn5:(picksS M l).1.ns.length=N5 at *
     generalize hf5:(picksS M l).1.fs.length=F5 at *
     generalize hx5:(picksS M l).1.pipes.length=X5 at *
     generalize hp5:(picksS M l).1.ps.length=P5 at *
     generalize hs5:(picksS M l).1.sunk.length=S5 at *
     clear hR hX hR3 hX3 hbox hRM yf s1 s2 s3 HSP2 HTO2
     go_wp2_with fail
     (try simp only[Exit.inBlock,Exit.then])
     refine bodyPost_ret (v:=.tuple #[.agg #[.slice bn N5 dn,.slice bf F5 df,.slice bx X5 dx,.slice bp P5 dp,.slice bS S5 ds],.slice (some ⟨B,0,none⟩) k k,.int .i64 0]) ?_ rfl ?_
     . rw[results_cell_tmp2P rfl]
       go_simp
     . rw[HRES.out]
       refine⟨.agg #[.slice bn N5 dn,.slice bf F5 df,.slice bx X5 dx,.slice bp P5 dp,.slice bS S5 ds],.slice (some ⟨B,0,none⟩) k k,rfl,?_,?_,?_⟩
       . exact⟨bn,bf,bx,bp,bS,dn,df,dx,dp,ds,by unfold machV;rw[hn5,hf5,hx5,hp5,hs5],HRM.out _ (by simp) (fun k hk=>by
          rw[Below.heap_setCell _ _ _ _ hk,Below.heap_setCell _ _ _ _ hk,Below.heap_setCell _ _ _ _ hk,Below.heap_setCell _ _ _ _ hk,Below.heap_setCell _ _ _ _ hk])⟩
       . exact HSD.out _ (fun k hk=>by
          rw[Below.heap_setCell _ _ _ _ hk,Below.heap_setCell _ _ _ _ hk,Below.heap_setCell _ _ _ _ hk,Below.heap_setCell _ _ _ _ hk,Below.heap_setCell _ _ _ _ hk])
       . repeat (first | refine Below.setCell ?_ (by simp) _ | exact hBw.out)
 .
  obtain⟨K,hK⟩:∃z,z=mchk M:=⟨_,rfl⟩
  rw[<- hK] at HCK h0
  rw[if_pos (by rw[<- hK];exact h0)] at hRES
  rw[<- hK] at hRES
  have HRES:Hid (RES=(zeroM,[],K)):=hRES
  clear HST HSP HTO hRES hK HQ
  go_enter Tryz.func24,Tryz.ntmps24
  go_wp2_with fail
  obtain⟨W0,hW0⟩:∃W,W=(w.alloc (.cells #[.slice an NN cn,.slice af NF cf,.slice ax NX cx,.slice ap NP cp,.slice aS NS cs] 30)).alloc (.cells #[.slice none 0 0,.slice none 0 0,.slice none 0 0,.slice none 0 0,.slice none 0 0] 30):=⟨_,rfl⟩
  rw[<- hW0]
  have hB0:Below w.heap.size w W0:=by rw[hW0];exact ((Below.refl _ w).alloc (Nat.le_refl _) _).alloc (by simp) _
  have hX0:BX W0 w.heap.size (.slice an NN cn) (.slice af NF cf) (.slice ax NX cx) (.slice ap NP cp) (.slice aS NS cs):=by
   rw[hW0]
   exact⟨heap_alloc2_old _ _ _,heap_alloc2_new _ _ _⟩
  refine Calls.mono (HCK.out W0 hB0) ?_
  rintro e w1 ⟨rfl,hb1⟩
  have HB1:Hid (Below w.heap.size w w1):=hB0.trans (hb1.mono hB0.size)
  have hX1:=BX.below hX0 hb1
  obtain⟨y0,y1,y2,y3,y4,yf⟩:=cells5C hX1.2
  have yf0:=yf 0
  have yf1:=yf 1
  have yf2:=yf 2
  have yf3:=yf 3
  have yf4:=yf 4
  clear hW0 hB0 hX0 hb1 hX1 HCK yf
  go_wp2_with fail
  (try simp only[Exit.inBlock,Exit.then])
  refine bodyPost_ret (v:=.tuple #[.agg #[.slice none 0 0,.slice none 0 0,.slice none 0 0,.slice none 0 0,.slice none 0 0],.slice none 0 0,.int .i64 K]) ?_ rfl ?_
  . rw[results_cell_tmp2P rfl]
    go_simp
  . rw[HRES.out]
    exact⟨_,_,rfl,MachNew.zero _ _,rnil,by repeat (first | refine Below.setCell ?_ (by simp) _ | exact HB1.out)⟩
end Go.Proofs.YtllgglolcgdehaaGreatDoor
namespace Go.Proofs.YtllgglolcgdehaaGreatDoor
open Go.RowKit Go.Gs
set_option linter.unusedVariables false
theorem same_bad (l:SLine) (W room:Int) (fs:List SFile) (pk:List Int) (af ad ao aq:Option Addr) (cf cd cap cq:Nat) (w:World) (hf:Reads w (.slice af l.fr.length cf) l.fr.length (l.fr.map S)) (hd:RCmds w (.slice ad l.cs.length cd) l.cs) (hfit:FitsL l) (hfs:RFiles w (.slice ao fs.length cap) fs) (hff:∀f∈fs,FitsF f) (hq:Reads w (.slice aq pk.length cq) pk.length (Zs pk)) (hpk:∀i∈pk,-9223372036854775808<=i/\i<=9223372036854775807) (hE:KnownE w) (h:¬((planT l W).2=0/\(newS (planT l W).1 fs room).2=0)) :
 Calls Tryz.prog 5 #[.agg #[.slice af l.fr.length cf,.slice ad l.cs.length cd,.string ⟨l.tu.toArray⟩],.int .i64 W,.slice ao fs.length cap,.int .i64 room,.slice aq pk.length cq] w fun e w'=>e=.returned (.bool true)/\Below w.heap.size w w':=by
 have HP:Hid (∀V,Below w.heap.size w V->Calls Tryz.prog 28 #[.agg #[.slice af l.fr.length cf,.slice ad l.cs.length cd,.string ⟨l.tu.toArray⟩],.int .i64 W] V fun e w'=>PlanEnd V (planT l W) e w'):=(show ∀V,_ from fun V hb=>plan_is l W af ad cf cd V (hf.below hb) (hd.below hb) hfit)
 have hfn:∀n∈(planT l W).1,FitsN n:=by
  unfold planT
  split
  . intro n hn;cases hn
  . split
    . intro n hn;cases hn
    . rename_i h1 h2
      intro n hn
      exact right_fits (plan_right (by omega) (by simpa using h1)) hn
 have HNW:Hid (∀(V:World) (an:Option Addr) (cn:Nat),Below w.heap.size w V->RNodes V (.slice an (planT l W).1.length cn) (planT l W).1->Calls Tryz.prog 15 #[.agg #[.slice an (planT l W).1.length cn],.slice ao fs.length cap,.int .i64 room] V fun e w'=>∃v,e=.returned (.tuple #[v,.int .i64 (newS (planT l W).1 fs room).2])/\MachAns w' v (newS (planT l W).1 fs room).1/\Below V.heap.size V w'):=(show ∀(V:World) (an:Option Addr) (cn:Nat),_ from fun V an cn hb hr=>NewE_is an ao cn cap (planT l W).1 fs room V hr (hfs.below hb) hfn hff)
 have HMI:Hid (∀V,Below w.heap.size w V->Calls Tryz.prog 17 #[] V fun e w'=>e=.returned (.bool true)/\Below V.heap.size V w'):=(show ∀V,_ from fun V hb=>milled_true V (hE.below hb))
 generalize (⟨l.tu.toArray⟩:ByteArray)=tx at *
 generalize l.fr.length=NFR at *
 generalize l.cs.length=NCS at *
 generalize fs.length=NFS at *
 generalize pk.length=NPK at *
 generalize newS (planT l W).1 fs room=nw at *
 obtain⟨M0,f0⟩:=nw
 simp only at h HNW
 have hc:¬(planT l W).2=0\/((planT l W).2=0 /\ ¬f0=0):=by
  by_cases h1:(planT l W).2=0
  . exact .inr ⟨h1,fun h2=>h ⟨h1,h2⟩⟩
  . exact .inl h1
 clear hf hd hfit hfs hff hq hpk hE hfn h
 go_enter Tryz.func5,Tryz.ntmps5
 go_wp2_with fail
 refine Calls.mono (HP.out _ box_of) ?_
 rintro e w1 ⟨an1,cn1,rfl,hn1,hb1⟩
 have hB1:Below w.heap.size w w1:=Below.trans (box_of (w:=w)) (hb1.mono (by simp))
 have HC1:Hid _:=HNW.out _ an1 cn1 (hB1.trans ((box_of (w:=w1) (o:=.cells #[.slice an1 (planT l W).1.length cn1] 24)).mono hB1.size)) (hn1.below box_of)
 have HB1:Hid (Below w.heap.size w w1):=hB1
 clear hn1 hb1 hB1 HP HNW
 generalize (planT l W).1.length=NL at *
 generalize (planT l W).2=e0 at *
 go_wp2_with fail
 refine Calls.mono HC1.out ?_
 rintro e w2 ⟨v,rfl,hA2,hb2⟩
 have HB2:Hid (Below w.heap.size w w2):=HB1.out.trans ((Below.trans (box_of (w:=w1)) (hb2.mono (by simp))).mono HB1.out.size)
 obtain⟨an,af',ax,ap,aS,cn,cf',cx,cp,cs,rfl,hM2⟩:=hA2
 unfold machV
 generalize M0.ns.length=NN at *
 generalize M0.fs.length=NF at *
 generalize M0.pipes.length=NX at *
 generalize M0.ps.length=NP at *
 generalize M0.sunk.length=NS at *
 clear hM2 hb2 HC1
 go_wp2_with fail
 refine Calls.mono (HMI.out _ (HB2.out.trans ((box_of (w:=w2)).mono HB2.out.size))) ?_
 rintro e w3 ⟨rfl,hb3⟩
 have HB3:Hid (Below w.heap.size w w3):=HB2.out.trans ((Below.trans (box_of (w:=w2)) (hb3.mono (by simp))).mono HB2.out.size)
 clear hb3
 have HM3:Hid _:=HMI.out _ HB3.out
 clear HMI
 rcases hc with h1 | ⟨h1,h2⟩
 all_goals
  go_wp2_with fail
  refine Calls.mono HM3.out ?_
  rintro e w4 ⟨rfl,hb4⟩
  have HB4:Hid (Below w.heap.size w w4):=HB3.out.trans (hb4.mono HB3.out.size)
  clear hb4
  go_wp2_with fail
  go_ret
  exact⟨rfl,HB4.out⟩
theorem same_ok (l:SLine) (W room:Int) (fs:List SFile) (pk:List Int) (af ad ao aq:Option Addr) (cf cd cap cq:Nat) (w:World) (hf:Reads w (.slice af l.fr.length cf) l.fr.length (l.fr.map S)) (hd:RCmds w (.slice ad l.cs.length cd) l.cs) (hfit:FitsL l) (hfs:RFiles w (.slice ao fs.length cap) fs) (hff:∀f∈fs,FitsF f) (hq:Reads w (.slice aq pk.length cq) pk.length (Zs pk)) (hpk:∀i∈pk,-9223372036854775808<=i/\i<=9223372036854775807) (hE:KnownE w) (h1:(planT l W).2=0) (h2:(newS (planT l W).1 fs room).2=0) :
 Calls Tryz.prog 5 #[.agg #[.slice af l.fr.length cf,.slice ad l.cs.length cd,.string ⟨l.tu.toArray⟩],.int .i64 W,.slice ao fs.length cap,.int .i64 room,.slice aq pk.length cq] w fun e w'=>e=.returned (.bool true)/\Below w.heap.size w w':=by
 have HP:Hid (∀V,Below w.heap.size w V->Calls Tryz.prog 28 #[.agg #[.slice af l.fr.length cf,.slice ad l.cs.length cd,.string ⟨l.tu.toArray⟩],.int .i64 W] V fun e w'=>PlanEnd V (planT l W) e w'):=(show ∀V,_ from fun V hb=>plan_is l W af ad cf cd V (hf.below hb) (hd.below hb) hfit)
 have hfn:∀n∈(planT l W).1,FitsN n:=by
  unfold planT
  split
  . intro n hn;cases hn
  . split
    . intro n hn;cases hn
    . rename_i h1 h2
      intro n hn
      exact right_fits (plan_right (by omega) (by simpa using h1)) hn
 have HNW:Hid (∀(V:World) (an:Option Addr) (cn:Nat),Below w.heap.size w V->RNodes V (.slice an (planT l W).1.length cn) (planT l W).1->Calls Tryz.prog 15 #[.agg #[.slice an (planT l W).1.length cn],.slice ao fs.length cap,.int .i64 room] V fun e w'=>∃v,e=.returned (.tuple #[v,.int .i64 (newS (planT l W).1 fs room).2])/\MachAns w' v (newS (planT l W).1 fs room).1/\Below V.heap.size V w'):=(show ∀(V:World) (an:Option Addr) (cn:Nat),_ from fun V an cn hb hr=>NewE_is an ao cn cap (planT l W).1 fs room V hr (hfs.below hb) hfn hff)
 have HMI:Hid (∀V,Below w.heap.size w V->Calls Tryz.prog 17 #[] V fun e w'=>e=.returned (.bool true)/\Below V.heap.size V w'):=(show ∀V,_ from fun V hb=>milled_true V (hE.below hb))
 obtain⟨hg,hfc,hbd,hr1,hr2,hnw,hre,_,_,_⟩:=plan_reach h1 h2
 rw[hnw] at HNW
 obtain⟨ns,hns⟩:∃z,z=(planT l W).1:=⟨_,rfl⟩
 rw[<- hns] at HNW hg hbd hre hfn
 have HEV:Hid (∀(V:World) (an:Option Addr) (cn:Nat),Below w.heap.size w V->RNodes V (.slice an ns.length cn) ns->Calls Tryz.prog 29 #[.agg #[.slice an ns.length cn],.slice ao fs.length cap] V fun e w'=>∃a c,e=.returned (.tuple #[.slice a (sunk ns fs).length c,.int .i64 0])/\Reads w' (.slice a (sunk ns fs).length c) (sunk ns fs).length ((sunk ns fs).map U)/\Below V.heap.size V w'):=(show ∀(V:World) (an:Option Addr) (cn:Nat),_ from fun V an cn hb hr=>by
  have:=eval_is ns an ao cn cap fs V hr hfn (hfs.below hb) hff (hE.below hb)
  rw[evalS_ok hg hfc] at this
  exact this)
 have HRUN:Hid (∀(V:World) (an af ax ap aS:Option Addr) (cn cf cx cp cs:Nat),Below w.heap.size w V->RMach V an af ax ap aS cn cf cx cp cs (freshM ns fs room)->Calls Tryz.prog 24 #[machV an af ax ap aS (freshM ns fs room) cn cf cx cp cs,.slice aq pk.length cq] V fun e w'=>∃v s,e=.returned (.tuple #[v,s,.int .i64 (runR (freshM ns fs room) pk).2.2])/\MachNew V.heap.size w' v (runR (freshM ns fs room) pk).1/\Reads w' s (runR (freshM ns fs room) pk).2.1.length (Zs (runR (freshM ns fs room) pk).2.1)/\Below V.heap.size V w'):=(show ∀(V:World) (an af ax ap aS:Option Addr) (cn cf cx cp cs:Nat),_ from fun V an af ax ap aS cn cf cx cp cs hb hM=>RunE_is an af ax ap aS aq cn cf cx cp cs cq (freshM ns fs room) pk V hM (hq.below hb) (reach_fits hg hfc hfn hff hre) (fun V' hV'=>hE.below (hb.trans (hV'.mono hb.size))) (Go.Gs.Reach ns fs room) (fun _=>reach_inv hg hfc hbd) (fun _=>hre))
 have HRR:Hid (runR (freshM ns fs room) pk=if 40000<pk.length then (zeroM,[],2) else ((picksS (freshM ns fs room) pk).1,(picksS (freshM ns fs room) pk).2,0)):=(show _=_ by unfold runR;rw[if_neg (by simp[hre.chk hg hfc hbd])])
 obtain⟨M5,hM5⟩:∃z,z=(picksS (freshM ns fs room) pk).1:=⟨_,rfl⟩
 have hr5:Go.Gs.Reach ns fs room M5:=by rw[hM5];exact hre.picks (right_graph hg) pk _
 rw[<- hM5] at HRR
 obtain⟨kf,rf,hk,hov,hrf,hsk⟩:=reach_fin hg hfc hbd hr1 hr5
 have HCK:Hid (∀(V:World) (an af ax ap aS:Option Addr) (cn cf cx cp cs:Nat),RMach V an af ax ap aS cn cf cx cp cs M5->Calls Tryz.prog 18 #[machV an af ax ap aS M5 cn cf cx cp cs] V fun e w'=>e=.returned (.int .i64 0)/\Below V.heap.size V w'):=(show ∀(V:World) (an af ax ap aS:Option Addr) (cn cf cx cp cs:Nat),_ from fun V an af ax ap aS cn cf cx cp cs hM=>by
  have:=mcheckA_is an af ax ap aS cn cf cx cp cs M5 V hM (reach_fits hg hfc hfn hff hr5)
  rw[hr5.chk hg hfc hbd] at this
  exact this)
 have HFIN:Hid (∀(V:World) (an af ax ap aS:Option Addr) (cn cf cx cp cs:Nat),Below w.heap.size w V->RMach V an af ax ap aS cn cf cx cp cs M5->Calls Tryz.prog 25 #[machV an af ax ap aS M5 cn cf cx cp cs] V fun e w'=>∃v,e=.returned (.tuple #[v,.int .i64 0])/\MachNew V.heap.size w' v rf/\Below V.heap.size V w'):=(show ∀(V:World) (an af ax ap aS:Option Addr) (cn cf cx cp cs:Nat),_ from fun V an af ax ap aS cn cf cx cp cs hb hM=>by
  have:=FinishN_is an af ax ap aS cn cf cx cp cs M5 V hM (reach_fits hg hfc hfn hff hr5) (fun V' hV'=>hE.below (hb.trans (hV'.mono hb.size))) (Go.Gs.Reach ns fs room) (fun _=>by rw[(reach_nodes hr5).1,(reach_nodes hr5).2];exact reach_inv hg hfc hbd) (fun _=>hr5) kf (rf,0) (fun _=>hk)
  rw[show finR M5 (rf,0)=(rf,0) from by unfold finR;rw[if_neg (by simp[hr5.chk hg hfc hbd])]] at this
  exact this)
 have HSK:Hid (M5.sunk <+: sunk ns fs/\(overS M5=true->M5.sunk=sunk ns fs)):=hr5.sunk (right_graph hg)
 have HFS:Hid (overS rf=true/\rf.sunk=sunk ns fs):=⟨hov,hsk⟩
 obtain⟨want,hwant⟩:∃z,z=sunk ns fs:=⟨_,rfl⟩
 rw[<- hwant] at HEV HSK HFS
 obtain⟨M0,hM0⟩:∃z,z=freshM ns fs room:=⟨_,rfl⟩
 rw[<- hM0] at HNW HRUN HRR
 simp only at HNW
 generalize (⟨l.tu.toArray⟩:ByteArray)=tx at *
 generalize l.fr.length=NFR at *
 generalize l.cs.length=NCS at *
 generalize fs.length=NFS at *
 generalize hNPK:pk.length=NPK at *
 clear hf hd hfit hfs hff hq hpk hE hfn hg hfc hbd hr1 hr2 hnw hre h2 hM5 hr5 hk hov hrf hsk hwant hM0 hNPK
 go_enter Tryz.func5,Tryz.ntmps5
 go_wp2_with fail
 refine Calls.mono (HP.out _ box_of) ?_
 rintro e w1 ⟨an1,cn1,rfl,hn1,hb1⟩
 rw[<- hns] at hn1 ⊢
 rw[h1]
 have hB1:Below w.heap.size w w1:=Below.trans (box_of (w:=w)) (hb1.mono (by simp))
 have HC1:Hid _:=HNW.out _ an1 cn1 (hB1.trans ((box_of (w:=w1) (o:=.cells #[.slice an1 ns.length cn1] 24)).mono hB1.size)) (hn1.below box_of)
 have HB1:Hid (Below w.heap.size w w1):=hB1
 have HN1:Hid (RNodes w1 (.slice an1 ns.length cn1) ns):=hn1
 clear hn1 hb1 hB1 HP HNW hns h1
 obtain⟨NL,hNL⟩:∃z,z=ns.length:=⟨_,rfl⟩
 rw[<- hNL] at HC1 HN1 HEV ⊢
 clear hNL
 go_wp2_with fail
 refine Calls.mono HC1.out ?_
 rintro e w2 ⟨v,rfl,hA2,hb2⟩
 have hb12:Below w1.heap.size w1 w2:=Below.trans (box_of (w:=w1)) (hb2.mono (by simp))
 have HB2:Hid (Below w.heap.size w w2):=HB1.out.trans (hb12.mono HB1.out.size)
 have hg2:w2.cell? ⟨w1.heap.size,0,none⟩=some (.slice an1 NL cn1):=by rw[hb2.cell (by simp),cell_of_row _ _ _ _ _ _ (heap_alloc_new w1 _)];rfl
 obtain⟨an,af',ax,ap,aS,cn,cf',cx,cp,cs,rfl,hM2⟩:=hA2
 obtain⟨W2,hW2⟩:∃z,z=w2.alloc (.cells #[.slice an M0.ns.length cn,.slice af' M0.fs.length cf',.slice ax M0.pipes.length cx,.slice ap M0.ps.length cp,.slice aS M0.sunk.length cs] 30):=⟨_,rfl⟩
 have hbW:Below w2.heap.size w2 W2:=by rw[hW2];exact box_of
 obtain⟨B,hB⟩:∃z,z=w2.heap.size:=⟨_,rfl⟩
 have HBB:Hid (w.heap.size<=B):=(show _<=_ by rw[hB];exact HB2.out.size)
 have HBW:Hid (Below w.heap.size w W2):=HB2.out.trans (hbW.mono HB2.out.size)
 have HBX:Hid (W2.heap[B]? = some (.cells #[.slice an M0.ns.length cn,.slice af' M0.fs.length cf',.slice ax M0.pipes.length cx,.slice ap M0.ps.length cp,.slice aS M0.sunk.length cs] 30 (0,0))/\RMach W2 an af' ax ap aS cn cf' cx cp cs M0):=(show _/\_ from ⟨by rw[hW2,hB];exact heap_alloc_new _ _,hM2.below hbW⟩)
 have HN2:Hid (RNodes W2 (.slice an1 NL cn1) ns/\W2.cell? ⟨w1.heap.size,0,none⟩=some (.slice an1 NL cn1)):=(show _/\_ from ⟨(RNodes.below HN1.out hb12).below hbW,(hbW.cell (bLt w2 _ hg2)).trans hg2⟩)
 unfold machV at HRUN ⊢
 generalize M0.ns.length=N0 at *
 generalize M0.fs.length=N1 at *
 generalize M0.pipes.length=N2 at *
 generalize M0.ps.length=N3 at *
 generalize M0.sunk.length=N4 at *
 clear hM2 hb2 HC1 hb12 hg2 HN1 hbW
 go_upto_region 3 with fail
 rw[<- hW2,<- hB]
 clear hW2 hB
 go_wp2_with fail
 refine Calls.mono (HMI.out _ HBW.out) ?_
 rintro e w3 ⟨rfl,hb3⟩
 have HB3:Hid (Below w.heap.size w w3):=HBW.out.trans (hb3.mono HBW.out.size)
 have HBX3:Hid (w3.heap[B]? = some (.cells #[.slice an N0 cn,.slice af' N1 cf',.slice ax N2 cx,.slice ap N3 cp,.slice aS N4 cs] 30 (0,0))/\RMach w3 an af' ax ap aS cn cf' cx cp cs M0):=(show _/\_ from ⟨(hb3.block B (aSm HBX.out.1).1).trans HBX.out.1,HBX.out.2.below hb3⟩)
 have HEC:Hid _:=HEV.out w3 an1 cn1 HB3.out (HN2.out.1.below hb3)
 have g3:=(hb3.cell (bLt W2 _ HN2.out.2)).trans HN2.out.2
 obtain⟨WL,hWL⟩:∃z,z=want.length:=⟨_,rfl⟩
 have HWL:Hid (WL=want.length):=hWL
 rw[<- hWL] at HEC
 clear hb3 HBX HN2 HMI HEV hWL
 go_wp2_with fail
 refine Calls.mono HEC.out ?_
 rintro e w4 ⟨a4,c4,rfl,hr4,hb4⟩
 have HB4:Hid (Below w.heap.size w w4):=HB3.out.trans (hb4.mono HB3.out.size)
 have HW4:Hid (Reads w4 (.slice a4 WL c4) WL (want.map U)):=hr4
 have HBX4:Hid (w4.heap[B]? = some (.cells #[.slice an N0 cn,.slice af' N1 cf',.slice ax N2 cx,.slice ap N3 cp,.slice aS N4 cs] 30 (0,0))/\RMach w4 an af' ax ap aS cn cf' cx cp cs M0):=(show _/\_ from ⟨(hb4.block B (aSm HBX3.out.1).1).trans HBX3.out.1,HBX3.out.2.below hb4⟩)
 have hle4:=readsE_le hr4
 obtain⟨x0,x1,x2,x3,x4,_⟩:=cells5C HBX4.out.1
 have HRC:Hid _:=HRUN.out w4 an af' ax ap aS cn cf' cx cp cs HB4.out HBX4.out.2
 clear hr4 hb4 HEC HBX3 g3 HRUN
 by_cases hbig:4000<WL
 . go_wp2_with fail
   go_ret
   exact⟨rfl,HB4.out⟩
 .
  go_wp2_with fail
  refine Calls.mono HRC.out ?_
  rintro e w5 ⟨v5,s5,rfl,hA5,hS5,hb5⟩
  have HB5:Hid (Below w.heap.size w w5):=HB4.out.trans (hb5.mono HB4.out.size)
  have hrow5:=(hb5.block B (aSm HBX4.out.1).1).trans HBX4.out.1
  have hBL:B<w4.heap.size:=(aSm HBX4.out.1).1
  have HW5:Hid (Reads w5 (.slice a4 WL c4) WL (want.map U)):=Reads.below HW4.out hb5
  obtain⟨bn,bf,bx,bp,bS,dn,df,dx,dp,ds,rfl,hN5⟩:=hA5
  obtain⟨y0,y1,y2,y3,y4,yf⟩:=cells5C hrow5
  have yf0:=yf 0
  have yf1:=yf 1
  have yf2:=yf 2
  have yf3:=yf 3
  have yf4:=yf 4
  rw[HRR.out] at hN5 ⊢
  unfold machV
  clear hb5 hS5 x0 x1 x2 x3 x4 HRC yf HRR HW4
  by_cases hp4:40000<NPK
  .
   rw[if_pos hp4]
   simp only
   generalize zeroM.ns.length=Z0 at *
   generalize zeroM.fs.length=Z1 at *
   generalize zeroM.pipes.length=Z2 at *
   generalize zeroM.ps.length=Z3 at *
   generalize zeroM.sunk.length=Z4 at *
   clear hN5 hrow5 HFIN HCK HSK HFS
   go_wp2_with fail
   go_ret
   exact⟨rfl,box5_below HB5.out HBB.out⟩
  .
   rw[if_neg hp4] at hN5 ⊢
   simp only at hN5 ⊢
   obtain⟨W6,hW6⟩:∃z,z=((((w5.setCell ⟨B,0,none⟩ (.slice bn M5.ns.length dn)).setCell ⟨B,1,none⟩ (.slice bf M5.fs.length df)).setCell ⟨B,2,none⟩ (.slice bx M5.pipes.length dx)).setCell ⟨B,3,none⟩ (.slice bp M5.ps.length dp)).setCell ⟨B,4,none⟩ (.slice bS M5.sunk.length ds):=⟨_,rfl⟩
   have hBX:=(box_store (b:=B) hN5 hBL hrow5 rfl rfl rfl rfl rfl).2.self
   have hrow6:=box5_set (v0:=.slice bn M5.ns.length dn) (v1:=.slice bf M5.fs.length df) (v2:=.slice bx M5.pipes.length dx) (v3:=.slice bp M5.ps.length dp) (v4:=.slice bS M5.sunk.length ds) hrow5
   rw[<- hW6] at hBX hrow6
   have HB6:Hid (Below w.heap.size w W6):=(show Below _ _ _ by rw[hW6];exact box5_below HB5.out HBB.out)
   have HW6:Hid (Reads W6 (.slice a4 WL c4) WL (want.map U)):=(show Reads _ _ _ _ by
    have h1:=HW5.out
    rw[HWL.out] at h1 ⊢
    exact bytes_apart (X:=fun k=>k=B) h1 (fun x hx=>by rw[hx];exact only5 hrow5) (fun k hk=>by rw[hW6];exact box5_other hk))
   obtain⟨SL,hSL⟩:∃z,z=M5.sunk.length:=⟨_,rfl⟩
   have hSW:SL<=WL:=by rw[hSL,HWL.out];exact HSK.out.1.length_le
   have HEQ:Hid (∀V,Below W6.heap.size W6 V->Calls Tryz.prog 30 #[.slice bS SL ds,.slice a4 SL c4] V fun e w'=>e=.returned (.bool true)/\Below V.heap.size V w'):=(show ∀V,_ from fun V hV=>by
    have h1:=hBX.sunk.below hV
    have h2:Reads V (.slice a4 M5.sunk.length c4) M5.sunk.length (M5.sunk.map U):=by
     obtain⟨_,ao',c',e',q1,q2,q3⟩:=Reads.below HW6.out hV
     injection e' with e1 e2 e3
     subst e1 e3
     refine⟨by simp,a4,c4,rfl,by omega,q2,fun h0=>?_⟩
     obtain⟨b,off,q4,q5⟩:=q3 (by omega)
     refine⟨b,off,q4,fun j u hj=>q5 j u ?_⟩
     obtain⟨rest,hrest⟩:=HSK.out.1
     rw[<- hrest,List.map_append,List.getElem?_append_left (by have:=(gSm hj).1;exact this)]
     exact hj
    have:=eqbyte_is bS a4 ds c4 M5.sunk M5.sunk V h1 h2
    rw[<- hSL] at this
    simpa using this)
   have HC6:Hid _:=fun V (hV:Below W6.heap.size W6 V)=>HCK.out V bn bf bx bp bS dn df dx dp ds (hBX.below hV)
   have HO6:Hid (∀V,Below W6.heap.size W6 V->Calls Tryz.prog 31 #[machV bn bf bx bp bS M5 dn df dx dp ds] V fun e w'=>e=.returned (.bool (overS M5))/\Below V.heap.size V w'):=(show ∀V,_ from fun V hV=>lover_is bn bf bx bp bS dn df dx dp ds M5 V (hBX.below hV))
   have HF6:Hid _:=fun V (hV:Below W6.heap.size W6 V)=>HFIN.out V bn bf bx bp bS dn df dx dp ds (HB6.out.trans (hV.mono HB6.out.size)) (hBX.below hV)
   have HOS:Hid (overS M5=true->SL=WL):=(show _->_ from fun h=>by rw[hSL,HWL.out,HSK.out.2 h])
   have HROW6:Hid (W6.heap[B]? = some (.cells #[.slice bn M5.ns.length dn,.slice bf M5.fs.length df,.slice bx M5.pipes.length dx,.slice bp M5.ps.length dp,.slice bS M5.sunk.length ds] 30 (0,0))):=hrow6
   rw[<- hSL] at HROW6
   unfold machV at HC6 HO6 HF6
   rw[<- hSL] at HC6 HO6 HF6 hW6 ⊢
   generalize M5.ns.length=P0 at *
   generalize M5.fs.length=P1 at *
   generalize M5.pipes.length=P2 at *
   generalize M5.ps.length=P3 at *
   clear hN5 HFIN HCK HSK hBX hrow6 hrow5 hSL HW5
   go_upto_region 13 with fail
   rw[<- hW6]
   obtain⟨z0,z1,z2,z3,z4,_⟩:=cells5C HROW6.out
   clear hW6 y0 y1 y2 y3 y4 yf0 yf1 yf2 yf3 yf4
   have cC:∀d os,Calls Tryz.prog 18 #[.agg #[.slice bn P0 dn,.slice bf P1 df,.slice bx P2 dx,.slice bp P3 dp,.slice bS SL ds]] (Go.Sort.grow (redrawn W6 d) os) fun e w''=>e=.returned (.int .i64 0) /\ ∃p:Regrown,w''=Go.Sort.grow (redrawn W6 p.d) p.os:=fun d os=>Calls.regrown_of (HC6.out _ (below_regrown W6 d os))
   have cE:∀d os,Calls Tryz.prog 30 #[.slice bS SL ds,.slice a4 SL c4] (Go.Sort.grow (redrawn W6 d) os) fun e w''=>e=.returned (.bool true) /\ ∃p:Regrown,w''=Go.Sort.grow (redrawn W6 p.d) p.os:=fun d os=>Calls.regrown_of (HEQ.out _ (below_regrown W6 d os))
   obtain⟨OV,hOV⟩:∃z,z=overS M5:=⟨_,rfl⟩
   rw[<- hOV] at HO6 HOS
   have cO:∀d os,Calls Tryz.prog 31 #[.agg #[.slice bn P0 dn,.slice bf P1 df,.slice bx P2 dx,.slice bp P3 dp,.slice bS SL ds]] (Go.Sort.grow (redrawn W6 d) os) fun e w''=>e=.returned (.bool OV) /\ ∃p:Regrown,w''=Go.Sort.grow (redrawn W6 p.d) p.os:=fun d os=>Calls.regrown_of (HO6.out _ (below_regrown W6 d os))
   clear hOV
   have k0:=fun d os=>cell_regrown z0 d os
   have k1:=fun d os=>cell_regrown z1 d os
   have k2:=fun d os=>cell_regrown z2 d os
   have k3:=fun d os=>cell_regrown z3 d os
   have k4:=fun d os=>cell_regrown z4 d os
   clear z0 z1 z2 z3 z4
   have hn1:¬((WL:Int)<(SL:Int)):=by omega
   have hn2:decide ((WL:Int)<(SL:Int))=false:=decide_eq_false hn1
   have hc4:SL<=c4:=by omega
   have hEND:∀w7,Below W6.heap.size W6 w7->Below w.heap.size w w7/\(w7.heap[B]? = some (.cells #[.slice bn P0 dn,.slice bf P1 df,.slice bx P2 dx,.slice bp P3 dp,.slice bS SL ds] 30 (0,0)))/\B<w7.heap.size/\Reads w7 (.slice a4 WL c4) WL (want.map U):=fun w7 h7=>⟨HB6.out.trans (h7.mono HB6.out.size),(h7.block B (aSm HROW6.out).1).trans HROW6.out,by have:=(aSm HROW6.out).1;have:=h7.size;omega,Reads.below HW6.out h7⟩
   have HEND:Hid _:=hEND
   clear hEND
   cases hOVc:OV with
   | true=>
    rw[hOVc] at cO HOS
    have hSE:=(HOS.out rfl).symm
    subst hSE
    clear hOVc HOS
    refine wp_region_quiet_below (by as_aux_lemma=>kernel_rfl) (by as_aux_lemma=>kernel_rfl) ?_
    iterate 34 (go_big_quiet_step (first | exact cC _ _ | exact cE _ _ | exact cO _ _))
    refine wpQuiet_nil ?_
    intro _ hw'
    obtain⟨⟨dq,osq⟩,hw''⟩:=hw'
    subst hw''
    have hb7:=below_regrown W6 dq osq
    generalize (Go.Sort.grow (redrawn W6 dq) osq)=w7 at *
    obtain⟨hB7,hrow7,hBL7,hr7⟩:=HEND.out w7 hb7
    have HFC:Hid _:=HF6.out w7 hb7
    have HB7:Hid (Below w.heap.size w w7):=hB7
    have HROW7:Hid (w7.heap[B]? = some (.cells #[.slice bn P0 dn,.slice bf P1 df,.slice bx P2 dx,.slice bp P3 dp,.slice bS WL ds] 30 (0,0))):=hrow7
    have HR7:Hid (Reads w7 (.slice a4 WL c4) WL (want.map U)):=hr7
    have HBL7:Hid (B<w7.heap.size):=hBL7
    clear k0 k1 k2 k3 k4 cC cE cO hb7 HF6 HEND HC6 HO6 HEQ hB7 hr7 hBL7 hn1 hn2
    obtain⟨x0,x1,x2,x3,x4,_⟩:=cells5C hrow7
    clear hrow7
    go_wp2_with fail
    refine Calls.mono HFC.out ?_
    rintro e w8 ⟨v8,rfl,hA8,hb8⟩
    have HB8:Hid (Below w.heap.size w w8):=HB7.out.trans (hb8.mono HB7.out.size)
    have hrow8:=(hb8.block B HBL7.out).trans HROW7.out
    obtain⟨en,ef,ex,ep,eS,gn,gf,gx,gp,gs,rfl,hN8⟩:=hA8
    obtain⟨y0,y1,y2,y3,y4,yf⟩:=cells5C hrow8
    have yf0:=yf 0
    have yf1:=yf 1
    have yf2:=yf 2
    have yf3:=yf 3
    have yf4:=yf 4
    unfold machV
    obtain⟨W9,hW9⟩:∃z,z=((((w8.setCell ⟨B,0,none⟩ (.slice en rf.ns.length gn)).setCell ⟨B,1,none⟩ (.slice ef rf.fs.length gf)).setCell ⟨B,2,none⟩ (.slice ex rf.pipes.length gx)).setCell ⟨B,3,none⟩ (.slice ep rf.ps.length gp)).setCell ⟨B,4,none⟩ (.slice eS rf.sunk.length gs):=⟨_,rfl⟩
    have hBX:=(box_store (b:=B) hN8 HBL7.out hrow8 rfl rfl rfl rfl rfl).2.self
    have hrow9:=box5_set (v0:=.slice en rf.ns.length gn) (v1:=.slice ef rf.fs.length gf) (v2:=.slice ex rf.pipes.length gx) (v3:=.slice ep rf.ps.length gp) (v4:=.slice eS rf.sunk.length gs) hrow8
    rw[<- hW9] at hBX hrow9
    have HB9:Hid (Below w.heap.size w W9):=(show Below _ _ _ by rw[hW9];exact box5_below HB8.out HBB.out)
    have HR9:Hid (Reads W9 (.slice a4 WL c4) WL (want.map U)):=(show Reads _ _ _ _ by
     have h1:=Reads.below HR7.out hb8
     rw[HWL.out] at h1 ⊢
     exact bytes_apart (X:=fun k=>k=B) h1 (fun x hx=>by rw[hx];exact only5 hrow8) (fun k hk=>by rw[hW9];exact box5_other hk))
    have HO9:Hid (Calls Tryz.prog 31 #[machV en ef ex ep eS rf gn gf gx gp gs] W9 fun e w'=>e=.returned (.bool true)/\Below W9.heap.size W9 w'):=(show Calls _ _ _ _ _ by
     have:=lover_is en ef ex ep eS gn gf gx gp gs rf W9 hBX
     rw[HFS.out.1] at this
     exact this)
    have HE9:Hid (∀V,Below W9.heap.size W9 V->Calls Tryz.prog 30 #[.slice eS rf.sunk.length gs,.slice a4 WL c4] V fun e w'=>e=.returned (.bool true)/\Below V.heap.size V w'):=(show ∀V,_ from fun V hV=>by
     have h2:=Reads.below HR9.out hV
     rw[HWL.out] at h2 ⊢
     have:=eqbyte_is eS a4 gs c4 rf.sunk want V (hBX.sunk.below hV) h2
     rw[HFS.out.2] at this ⊢
     simpa using this)
    have HROW9:Hid (W9.heap[B]? = some (.cells #[.slice en rf.ns.length gn,.slice ef rf.fs.length gf,.slice ex rf.pipes.length gx,.slice ep rf.ps.length gp,.slice eS rf.sunk.length gs] 30 (0,0))):=hrow9
    unfold machV at HO9
    generalize rf.ns.length=Q0 at *
    generalize rf.fs.length=Q1 at *
    generalize rf.pipes.length=Q2 at *
    generalize rf.ps.length=Q3 at *
    generalize rf.sunk.length=Q4 at *
    clear hN8 hBX hrow8 hrow9 hb8 HFC x0 x1 x2 x3 x4 yf
    go_upto_region 16 with fail
    rw[<- hW9]
    obtain⟨z0,z1,z2,z3,z4,_⟩:=cells5C HROW9.out
    clear hW9 y0 y1 y2 y3 y4 yf0 yf1 yf2 yf3 yf4
    go_wp2_with fail
    refine Calls.mono HO9.out ?_
    rintro e wa ⟨rfl,hba⟩
    have HBa:Hid (Below w.heap.size w wa):=HB9.out.trans (hba.mono HB9.out.size)
    have HEa:Hid _:=HE9.out wa hba
    obtain⟨z0,z1,z2,z3,z4,_⟩:=cells5C ((hba.block B (aSm HROW9.out).1).trans HROW9.out)
    clear hba HO9 HE9
    go_wp2_with fail
    refine Calls.mono HEa.out ?_
    rintro e wb ⟨rfl,hbb⟩
    have HBb:Hid (Below w.heap.size w wb):=HBa.out.trans (hbb.mono HBa.out.size)
    clear hbb HEa
    go_wp2_with fail
    go_ret
    exact⟨rfl,HBb.out⟩
   | false=>
    rw[hOVc] at cO
    clear hOVc HOS
    refine wp_region_quiet_below (by as_aux_lemma=>kernel_rfl) (by as_aux_lemma=>kernel_rfl) ?_
    iterate 34 (go_big_quiet_step (first | exact cC _ _ | exact cE _ _ | exact cO _ _))
    refine wpQuiet_nil ?_
    intro _ hw'
    obtain⟨⟨dq,osq⟩,hw''⟩:=hw'
    subst hw''
    have hb7:=below_regrown W6 dq osq
    generalize (Go.Sort.grow (redrawn W6 dq) osq)=w7 at *
    obtain⟨hB7,hrow7,hBL7,hr7⟩:=HEND.out w7 hb7
    have HFC:Hid _:=HF6.out w7 hb7
    have HB7:Hid (Below w.heap.size w w7):=hB7
    have HROW7:Hid (w7.heap[B]? = some (.cells #[.slice bn P0 dn,.slice bf P1 df,.slice bx P2 dx,.slice bp P3 dp,.slice bS SL ds] 30 (0,0))):=hrow7
    have HR7:Hid (Reads w7 (.slice a4 WL c4) WL (want.map U)):=hr7
    have HBL7:Hid (B<w7.heap.size):=hBL7
    clear k0 k1 k2 k3 k4 cC cE cO hb7 HF6 HEND HC6 HO6 HEQ hB7 hr7 hBL7 hn1 hn2
    obtain⟨x0,x1,x2,x3,x4,_⟩:=cells5C hrow7
    clear hrow7
    go_wp2_with fail
    refine Calls.mono HFC.out ?_
    rintro e w8 ⟨v8,rfl,hA8,hb8⟩
    have HB8:Hid (Below w.heap.size w w8):=HB7.out.trans (hb8.mono HB7.out.size)
    have hrow8:=(hb8.block B HBL7.out).trans HROW7.out
    obtain⟨en,ef,ex,ep,eS,gn,gf,gx,gp,gs,rfl,hN8⟩:=hA8
    obtain⟨y0,y1,y2,y3,y4,yf⟩:=cells5C hrow8
    have yf0:=yf 0
    have yf1:=yf 1
    have yf2:=yf 2
    have yf3:=yf 3
    have yf4:=yf 4
    unfold machV
    obtain⟨W9,hW9⟩:∃z,z=((((w8.setCell ⟨B,0,none⟩ (.slice en rf.ns.length gn)).setCell ⟨B,1,none⟩ (.slice ef rf.fs.length gf)).setCell ⟨B,2,none⟩ (.slice ex rf.pipes.length gx)).setCell ⟨B,3,none⟩ (.slice ep rf.ps.length gp)).setCell ⟨B,4,none⟩ (.slice eS rf.sunk.length gs):=⟨_,rfl⟩
    have hBX:=(box_store (b:=B) hN8 HBL7.out hrow8 rfl rfl rfl rfl rfl).2.self
    have hrow9:=box5_set (v0:=.slice en rf.ns.length gn) (v1:=.slice ef rf.fs.length gf) (v2:=.slice ex rf.pipes.length gx) (v3:=.slice ep rf.ps.length gp) (v4:=.slice eS rf.sunk.length gs) hrow8
    rw[<- hW9] at hBX hrow9
    have HB9:Hid (Below w.heap.size w W9):=(show Below _ _ _ by rw[hW9];exact box5_below HB8.out HBB.out)
    have HR9:Hid (Reads W9 (.slice a4 WL c4) WL (want.map U)):=(show Reads _ _ _ _ by
     have h1:=Reads.below HR7.out hb8
     rw[HWL.out] at h1 ⊢
     exact bytes_apart (X:=fun k=>k=B) h1 (fun x hx=>by rw[hx];exact only5 hrow8) (fun k hk=>by rw[hW9];exact box5_other hk))
    have HO9:Hid (Calls Tryz.prog 31 #[machV en ef ex ep eS rf gn gf gx gp gs] W9 fun e w'=>e=.returned (.bool true)/\Below W9.heap.size W9 w'):=(show Calls _ _ _ _ _ by
     have:=lover_is en ef ex ep eS gn gf gx gp gs rf W9 hBX
     rw[HFS.out.1] at this
     exact this)
    have HE9:Hid (∀V,Below W9.heap.size W9 V->Calls Tryz.prog 30 #[.slice eS rf.sunk.length gs,.slice a4 WL c4] V fun e w'=>e=.returned (.bool true)/\Below V.heap.size V w'):=(show ∀V,_ from fun V hV=>by
     have h2:=Reads.below HR9.out hV
     rw[HWL.out] at h2 ⊢
     have:=eqbyte_is eS a4 gs c4 rf.sunk want V (hBX.sunk.below hV) h2
     rw[HFS.out.2] at this ⊢
     simpa using this)
    have HROW9:Hid (W9.heap[B]? = some (.cells #[.slice en rf.ns.length gn,.slice ef rf.fs.length gf,.slice ex rf.pipes.length gx,.slice ep rf.ps.length gp,.slice eS rf.sunk.length gs] 30 (0,0))):=hrow9
    unfold machV at HO9
    generalize rf.ns.length=Q0 at *
    generalize rf.fs.length=Q1 at *
    generalize rf.pipes.length=Q2 at *
    generalize rf.ps.length=Q3 at *
    generalize rf.sunk.length=Q4 at *
    clear hN8 hBX hrow8 hrow9 hb8 HFC x0 x1 x2 x3 x4 yf
    go_upto_region 16 with fail
    rw[<- hW9]
    obtain⟨z0,z1,z2,z3,z4,_⟩:=cells5C HROW9.out
    clear hW9 y0 y1 y2 y3 y4 yf0 yf1 yf2 yf3 yf4
    go_wp2_with fail
    refine Calls.mono HO9.out ?_
    rintro e wa ⟨rfl,hba⟩
    have HBa:Hid (Below w.heap.size w wa):=HB9.out.trans (hba.mono HB9.out.size)
    have HEa:Hid _:=HE9.out wa hba
    obtain⟨z0,z1,z2,z3,z4,_⟩:=cells5C ((hba.block B (aSm HROW9.out).1).trans HROW9.out)
    clear hba HO9 HE9
    go_wp2_with fail
    refine Calls.mono HEa.out ?_
    rintro e wb ⟨rfl,hbb⟩
    have HBb:Hid (Below w.heap.size w wb):=HBa.out.trans (hbb.mono HBa.out.size)
    clear hbb HEa
    go_wp2_with fail
    go_ret
    exact⟨rfl,HBb.out⟩
theorem execSame_walk (V:World) (hE:KnownE V) (hsh:V.ShapedOpen Tryz.prog) (l:SLine) (af ad:Option Addr) (cf cd:Nat) (hf:Reads V (.slice af l.fr.length cf) l.fr.length (l.fr.map S)) (hd:RCmds V (.slice ad l.cs.length cd) l.cs) (hfit:FitsL l) (hzl:ad=none->cd=0) (W:Int) (hW:-9223372036854775808<=W/\W<=9223372036854775807) (ao:Option Addr) (cap:Nat) (fs:List SFile) (hfs:RFiles V (.slice ao fs.length cap) fs) (hff:∀f∈fs,FitsF f) (hz:ao=none->cap=0) (room:Int) (hroom:-9223372036854775808<=room/\room<=9223372036854775807) (aq:Option Addr) (cq:Nat) (pk:List Int) (hq:Reads V (.slice aq pk.length cq) pk.length (pk.map (Value.int .i64))) (hpk:∀z∈pk,-9223372036854775808<=z/\z<=9223372036854775807) :
 Calls Tryz.prog 5 #[.agg #[.slice af l.fr.length cf,.slice ad l.cs.length cd,.string ⟨l.tu.toArray⟩],.int .i64 W,.slice ao fs.length cap,.int .i64 room,.slice aq pk.length cq] V fun e w'=>e=.returned (.bool true)/\Below V.heap.size V w':=by
 by_cases h:(planT l W).2=0/\(newS (planT l W).1 fs room).2=0
 . exact same_ok l W room fs pk af ad ao aq cf cd cap cq V hf hd hfit hfs hff hq hpk hE h.1 h.2
 . exact same_bad l W room fs pk af ad ao aq cf cd cap cq V hf hd hfit hfs hff hq hpk hE h
end Go.Proofs.YtllgglolcgdehaaGreatDoor
namespace Go.Proofs.YtllgglolcgdehaaGreatDoor
open Go.RowKit Go.Gs Go.ChangeShapes Go.WideShapes Go.ChangeAt
set_option linter.unusedVariables false
variable {P:Program} {H:Type} {enc:TypeId × Value->H} {W:World} {base:Nat} {held:Bool} {fuel:Nat} {t e q:TypeId} {x:DataW H × List MemPlace}
theorem add_plain4 {b off j:Nat}:(⟨b,off,none⟩:Addr).add j=⟨b,off+j,none⟩:=by unfold Addr.add;split <;> simp_all
theorem open_triples {spare:Nat->Bool} {f0 f1 f2:Field} {cs:List Value} (ht:P.underlying t=some (.slice e)) (he:P.underlying e=some (.struct #[f0,f1,f2]))
 (ce:P.cellsOf e=3) (o0:f0.offset=0) (o1:f1.offset=1) (o2:f2.offset=2) (c0:P.cellsOf f0.type=1) (c1:P.cellsOf f1.type=1) (c2:P.cellsOf f2.type=1)
 (h:DataW.trod enc P W base spare held fuel t cs=some x) :
 cs=[.slice none 0 0] \/
 ∃(a:Addr) (len cap:Nat) (V:Nat->Value × Value × Value),cs=[.slice (some a) len cap]/\len<=cap/\cap<=maxLen /\
  ∀i,i<len->W.cell? (a.add (i*3))=some (V i).1/\W.cell? (a.add (i*3+1))=some (V i).2.1/\W.cell? (a.add (i*3+2))=some (V i).2.2 /\
   ∃n y0 y1 y2,DataW.trod enc P W base spare held n f0.type [(V i).1]=some y0/\DataW.trod enc P W base spare held n f1.type [(V i).2.1]=some y1/\DataW.trod enc P W base spare held n f2.type [(V i).2.2]=some y2:=by
 rcases Deep.open_slice ht h with ⟨h0,_⟩ | ⟨a,len,cap,m,n,D,Pl,rfl,hb,hl,hm,hmm,rfl,hx⟩
 . exact Or.inl h0
 right
 have hlm:len<=m:=by rw[hmm];split <;> omega
 have each:∀i,i<len -> ∃q:Value × Value × Value,W.cell? (a.add (i*3))=some q.1/\W.cell? (a.add (i*3+1))=some q.2.1/\W.cell? (a.add (i*3+2))=some q.2.2 /\
  ∃n y0 y1 y2,DataW.trod enc P W base spare held n f0.type [q.1]=some y0/\DataW.trod enc P W base spare held n f1.type [q.2.1]=some y1/\DataW.trod enc P W base spare held n f2.type [q.2.2]=some y2:=by
  intro i hi
  obtain⟨cs',h1,h2⟩:=hx i (by omega)
  rw[ce] at h1
  obtain⟨_,hlen,hcell⟩:=World.cells?_some h1
  obtain⟨xs,k,hk,hxy,_,hxl,hf⟩:=DataW.trod_struct he h2
  match xs,hxl,cs',hlen with
  | [y0,y1,y2],_,[v0,v1,v2],_=>
   have g0:=hf 0 f0 rfl
   have g1:=hf 1 f1 rfl
   have g2:=hf 2 f2 rfl
   simp[o0,o1,o2,c0,c1,c2] at g0 g1 g2
   have e0:=hcell 0 (by omega)
   have e1:=hcell 1 (by omega)
   have e2:=hcell 2 (by omega)
   rw[Deep.add_add] at e0 e1 e2
   exact⟨(v0,v1,v2),by simpa using e0,by simpa using e1,by simpa using e2,k,y0,y1,y2,g0,g1,g2⟩
 obtain⟨q,hq⟩:=Deep.choose_lt each
 exact⟨a,len,cap,q,rfl,hl,hm,hq⟩
theorem range_get {α:Type} {len:Nat} {Y:Nat->α} {j:Nat} {p:α} (hj:((List.range len).map Y)[j]? = some p):j<len/\p=Y j:=by
 rw[List.getElem?_map] at hj
 cases hr:(List.range len)[j]? with
 | none=>rw[hr] at hj;cases hj
 | some i=>
  rw[hr] at hj
  have h1:=(gSm hr).1
  rw[List.length_range] at h1
  rw[List.getElem?_range h1] at hr
  injection hr with hr
  simp only[Option.map_some,Option.some.injEq] at hj
  exact⟨h1,by rw[<- hj,<- hr]⟩
theorem spot_none {w:World} {a:Addr} {k:Nat} {v:Value} (h:w.cell? (a.add k)=some v) (hk:k=0):a.spot=none:=by
 obtain⟨b,off,spot⟩:=a
 subst hk
 simpa[Addr.add] using World.cell?_spot h
theorem strs_of_open (ht:P.underlying t=some (.slice e)) (he:P.underlying e=some .string) (ce:P.cellsOf e=1) {v:Value}
 (hf:DataW.trod enc P W base (fun _=>true) held fuel t [v]=some x) :
 ∃fr:List (List UInt8),Reads W v fr.length (fr.map S) /\ ∀s∈fr,s.length<=9223372036854775807:=by
 rcases Deep.open_slice1 ht ce hf with ⟨hcs,_⟩ | ⟨ad,len,cap,m,n,V,D,Pl,hcs,hb,hl,hm,hmm,hx,hall⟩
 . simp at hcs
   subst hcs
   exact⟨[],⟨rfl,none,0,rfl,Nat.le_refl _,by simp,fun h=>absurd rfl h⟩,by simp⟩
 .
  simp at hcs
  subst hcs
  simp only[if_true] at hmm
  subst hmm
  have each:∀i,i<len -> ∃y:List UInt8,V i=S y/\y.length<=9223372036854775807:=by
   intro i hi
   obtain⟨s,e2,_,hs⟩:=DataW.trod_string he (hall i (by omega)).2
   simp at e2
   refine⟨s.data.toList,by rw[e2];rfl,?_⟩
   unfold maxLen at hs
   have:s.data.toList.length=s.size:=Array.length_toList
   omega
  obtain⟨Y,hY⟩:=Deep.choose_lt each
  refine⟨(List.range len).map Y,⟨by simp,some ad,m,by simp,by simpa using hl,hm,fun h0=>?_⟩,fun s hs=>?_⟩
  .
   have h0':0<len:=by
    rcases Nat.eq_zero_or_pos len with h | h
    . subst h;simp at h0
    . exact h
   have hspot:=spot_none (hall 0 (by omega)).1 rfl
   obtain⟨b,off,spot⟩:=ad
   simp only at hspot
   subst hspot
   refine⟨b,off,rfl,fun j u hu=>?_⟩
   rw[List.map_map] at hu
   obtain⟨h1,h2⟩:=range_get hu
   have:=(hall j (by omega)).1
   rw[add_plain4] at this
   rw[this,h2,Function.comp,(hY j h1).1]
  . obtain⟨i,hi,rfl⟩:=List.mem_map.1 hs
    exact (hY i (List.mem_range.1 hi)).2
theorem cmds_of_open {f0 f1 f2:Field} (ht:P.underlying t=some (.slice e)) (he:P.underlying e=some (.struct #[f0,f1,f2]))
 (ce:P.cellsOf e=3) (o0:f0.offset=0) (o1:f1.offset=1) (o2:f2.offset=2) (c0:P.cellsOf f0.type=1) (c1:P.cellsOf f1.type=1) (c2:P.cellsOf f2.type=1)
 (u0:P.underlying f0.type=some (.int .i64)) (u1:P.underlying f1.type=some .string) (u2:P.underlying f2.type=some (.int .i64)) {v:Value}
 (hf:DataW.trod enc P W base (fun _=>true) held fuel t [v]=some x):∃cs:List Cmd,RCmds W v cs/\FitsC cs /\ ∀n c,v=.slice none n c->c=0:=by
 rcases open_triples ht he ce o0 o1 o2 c0 c1 c2 hf with hcs | ⟨a,len,cap,V,hcs,hl,hm,hall⟩
 . simp at hcs
   subst hcs
   exact⟨[],⟨none,0,rfl,Nat.le_refl _,by simp,fun h=>absurd rfl h⟩,(by intro c hc;cases hc),fun n c e=>by injection e with _ _ e;exact e.symm⟩
 .
  simp at hcs
  subst hcs
  have each:∀i,i<len -> ∃c:Cmd,V i=(.int .i64 c.kind,.string ⟨c.word.toArray⟩,.int .i64 c.n)/\c.word.length<=9223372036854775807:=by
   intro i hi
   obtain⟨_,_,_,n,y0,y1,y2,g0,g1,g2⟩:=hall i hi
   obtain⟨k,e1,_,_⟩:=DataW.trod_int u0 g0
   obtain⟨s,e2,_,hs⟩:=DataW.trod_string u1 g1
   obtain⟨n,e3,_,_⟩:=DataW.trod_int u2 g2
   simp at e1 e2 e3
   refine⟨⟨k,s.data.toList,n⟩,by rw[<- e1,<- e3];exact Prod.ext rfl (Prod.ext e2 rfl),?_⟩
   unfold maxLen at hs
   have:s.data.toList.length=s.size:=Array.length_toList
   show s.data.toList.length<=_
   omega
  haveI:Inhabited Cmd:=⟨⟨0,[],0⟩⟩
  obtain⟨Y,hY⟩:=Deep.choose_lt each
  refine⟨(List.range len).map Y,⟨some a,cap,by simp,by simpa using hl,hm,fun h0=>?_⟩,fun c hc=>?_,fun n c e=>by injection e with e;cases e⟩
  .
   have h0':0<len:=by
    rcases Nat.eq_zero_or_pos len with h | h
    . subst h;simp at h0
    . exact h
   have hspot:=spot_none (hall 0 h0').1 rfl
   obtain⟨b,off,spot⟩:=a
   simp only at hspot
   subst hspot
   refine⟨b,off,rfl,fun j u hu=>?_⟩
   obtain⟨h1,h2⟩:=range_get hu
   subst h2
   obtain⟨b0,b1,b2,_⟩:=hall j h1
   rw[add_plain4,(hY j h1).1] at b0 b1 b2
   exact⟨b0,b1,b2⟩
  . obtain⟨i,hi,rfl⟩:=List.mem_map.1 hc
    exact (hY i (List.mem_range.1 hi)).2
theorem line_of_open {vf vd vt:Value} {n:Nat} {y0 y1 y2:DataW H × List MemPlace} (g0:DataW.trod enc Tryz.prog W base (fun _=>true) held n 53 [vf]=some y0) (g1:DataW.trod enc Tryz.prog W base (fun _=>true) held n 54 [vd]=some y1) (g2:DataW.trod enc Tryz.prog W base (fun _=>true) held n 9 [vt]=some y2) :
 ∃x:SLine,vt=.string ⟨x.tu.toArray⟩/\Reads W vf x.fr.length (x.fr.map S)/\RCmds W vd x.cs/\FitsL x /\ ∀n c,vd=.slice none n c->c=0:=by
 obtain⟨fr,r1,r2⟩:=strs_of_open Tryz.underlying53 Tryz.underlying9 (by kernel_rfl) g0
 obtain⟨cs,r3,r4,r5⟩:=cmds_of_open Tryz.underlying54 Tryz.underlying70 (by kernel_rfl) rfl rfl rfl (by kernel_rfl) (by kernel_rfl) (by kernel_rfl) Tryz.underlying3 Tryz.underlying9 Tryz.underlying3 g1
 obtain⟨s,e2,_,hs⟩:=DataW.trod_string Tryz.underlying9 g2
 simp at e2
 refine⟨⟨fr,cs,s.data.toList⟩,e2,r1,r3,⟨r2,r4,?_⟩,r5⟩
 unfold maxLen at hs
 have:s.data.toList.length=s.size:=Array.length_toList
 show s.data.toList.length<=_
 omega
end Go.Proofs.YtllgglolcgdehaaGreatDoor
namespace Go.Gs
open Go.RowKit Go.ChangeShapes Go.WideShapes Go.ChangeAt
set_option linter.unusedVariables false
variable {P:Program} {H:Type} {enc:TypeId × Value->H} {W:World} {base:Nat} {held:Bool} {fuel:Nat} {t e:TypeId} {a:Option Addr} {len cap:Nat} {x:DataW H × List MemPlace}
theorem add_plain {b off j:Nat}:(⟨b,off,none⟩:Addr).add j=⟨b,off+j,none⟩:=by unfold Addr.add;split <;> simp_all
theorem U_of {z:Int} (h:(Lit.int .u8 z).wf=true):U (UInt8.ofNat z.toNat)=.int .u8 z:=by
 have hx:0<=z/\z<=255:=by simpa[Lit.wf,IntKind.min,IntKind.max,IntKind.signed,IntKind.bits] using h
 have:((UInt8.ofNat z.toNat).toNat:Int)=z:=by
  rw[UInt8.toNat_ofNat_of_lt' (by show _<256;omega)]
  omega
 simp only[U,this]
theorem bytes_of_open (ht:P.underlying t=some (.slice e)) (he:P.underlying e=some (.int .u8)) (hc:P.cellsOf e=1)
 (hf:DataW.trod enc P W base (fun _=>true) held fuel t [.slice a len cap]=some x) :
 ∃bs:List UInt8,bs.length=len/\Reads W (.slice a len cap) bs.length (bs.map U):=by
 rcases open_ints ht he hc hf with ⟨hcs,_⟩ | ⟨ad,l,c,zs,hcs,_,hl,hm,hz,_,hcell,hwz⟩
 . simp at hcs
   obtain⟨rfl,rfl,rfl⟩:=hcs
   exact⟨[],rfl,rfl,none,0,rfl,Nat.le_refl _,by simp,fun h=>absurd rfl h⟩
 .
  simp at hcs
  obtain⟨rfl,rfl,rfl⟩:=hcs
  have hz':zs.length=cap:=by simpa using hz
  have hbl:((zs.take len).map (fun z=>UInt8.ofNat z.toNat)).length=len:=by simp;omega
  refine⟨(zs.take len).map (fun z=>UInt8.ofNat z.toNat),hbl,by simp,some ad,cap,by rw[hbl],by omega,hm,fun h0=>?_⟩
  rw[hbl] at h0
  obtain⟨b,off,spot⟩:=ad
  have h00:=hcell 0 (by omega)
  have hspot:spot=none:=by simpa[Addr.add] using World.cell?_spot h00
  subst hspot
  refine⟨b,off,rfl,fun j u hu=>?_⟩
  have hj:j<len:=by
   have:=(gSm hu).1
   simp at this
   omega
  have hjz:j<zs.length:=by omega
  have hcj:=hcell j hjz
  rw[add_plain] at hcj
  rw[hcj]
  simp only[List.map_map,List.getElem?_map,List.getElem?_take,hj,if_true,gEl hjz,Option.map_some,Function.comp_apply,Option.some.injEq] at hu
  rw[U_of (hwz _ (List.getElem_mem hjz))] at hu
  rw[<- hu]
  simp[hjz]
theorem strs_of_open (ht:P.underlying t=some (.slice e)) (he:P.underlying e=some .string) (hc:P.cellsOf e=1)
 (hf:DataW.trod enc P W base (fun _=>true) held fuel t [.slice a len cap]=some x) :
 ∃ls:List (List UInt8),ls.length=len/\Reads W (.slice a len cap) ls.length (ls.map S) /\ ∀s∈ls,s.length<=9223372036854775807:=by
 rcases open_strings ht he hc hf with ⟨hcs,_⟩ | ⟨ad,l,c,ss,hcs,_,hl,hm,hz,_,hcell,hwz⟩
 . simp at hcs
   obtain⟨rfl,rfl,rfl⟩:=hcs
   exact⟨[],rfl,⟨rfl,none,0,rfl,Nat.le_refl _,by simp,fun h=>absurd rfl h⟩,by simp⟩
 .
  simp at hcs
  obtain⟨rfl,rfl,rfl⟩:=hcs
  have hz':ss.length=cap:=by simpa using hz
  have hbl:((ss.take len).map (fun s=>s.data.toList)).length=len:=by simp;omega
  refine⟨(ss.take len).map (fun s=>s.data.toList),hbl,⟨by simp,some ad,cap,by rw[hbl],by omega,hm,fun h0=>?_⟩,?_⟩
  .
   rw[hbl] at h0
   obtain⟨b,off,spot⟩:=ad
   have h00:=hcell 0 (by omega)
   have hspot:spot=none:=by simpa[Addr.add] using World.cell?_spot h00
   subst hspot
   refine⟨b,off,rfl,fun j u hu=>?_⟩
   have hj:j<len:=by
    have:=(gSm hu).1
    simp at this
    omega
   have hjz:j<ss.length:=by omega
   have hcj:=hcell j hjz
   rw[add_plain] at hcj
   rw[hcj]
   simp only[List.map_map,List.getElem?_map,List.getElem?_take,hj,if_true,gEl hjz,Option.map_some,Function.comp_apply,Option.some.injEq] at hu
   rw[<- hu]
   simp[hjz,S]
  .
   intro s hs
   simp only[List.mem_map] at hs
   obtain⟨y,hy,rfl⟩:=hs
   have h1:y.size<=maxLen:=hwz y (List.mem_of_mem_take hy)
   have h2:y.data.toList.length=y.size:=Array.length_toList
   unfold maxLen at h1
   omega
end Go.Gs
namespace Go.Proofs.YtllgglolcgdehaaGreatDoor
open Go.RowKit Go.Gs Go.ChangeShapes Go.WideShapes Go.ChangeAt
set_option linter.unusedVariables false
variable {H:Type} {enc:TypeId × Value->H} {W:World} {base:Nat} {held:Bool} {fuel:Nat} {x:DataW H × List MemPlace}
theorem spot_none5 {w:World} {a:Addr} {k:Nat} {v:Value} (h:w.cell? (a.add k)=some v) (hk:k=0):a.spot=none:=by
 obtain⟨b,off,spot⟩:=a
 subst hk
 simpa[Addr.add] using World.cell?_spot h
theorem files_of_open {v:Value} (hf:DataW.trod enc Tryz.prog W base (fun _=>true) held fuel 25 [v]=some x) :
 ∃fs:List SFile,RFiles W v fs/\(∀f∈fs,FitsF f) /\ ∀n c,v=.slice none n c->c=0:=by
 rcases Deep.open_slice_pairs Tryz.underlying25 Tryz.underlying83 (by kernel_rfl) rfl rfl (by kernel_rfl) (by kernel_rfl) hf with ⟨hcs,_⟩ | ⟨a,len,cap,m,n,V0,V1,D0,D1,P0,P1,hcs,hb,hl,hm,hmm,_,hall⟩
 . simp at hcs
   subst hcs
   exact⟨[],⟨none,0,rfl,Nat.le_refl _,by simp,fun h=>absurd rfl h⟩,(by intro c hc;cases hc),fun n c e=>by injection e with _ _ e;exact e.symm⟩
 .
  simp at hcs
  subst hcs
  simp only[if_true] at hmm
  subst hmm
  have each:∀i,i<len -> ∃f:SFile,V0 i=.string ⟨f.name.toArray⟩/\Reads W (V1 i) f.b.length (f.b.map U)/\FitsF f:=by
   intro i hi
   obtain⟨_,_,g0,g1⟩:=hall i (by omega)
   obtain⟨s,e2,_,hs⟩:=DataW.trod_string Tryz.underlying9 g0
   simp at e2
   obtain⟨a',l',c',hv⟩:∃a' l' c',V1 i=.slice a' l' c':=by
    rcases open_ints Tryz.underlying28 Tryz.underlying5 (by kernel_rfl) g1 with ⟨hcs,_⟩ | ⟨ad',l',c',zs,hcs,_⟩
    . exact⟨none,0,0,by simpa using hcs⟩
    . exact⟨some ad',l',c',by simpa using hcs⟩
   rw[hv] at g1 ⊢
   obtain⟨bs,hbl,hr⟩:=bytes_of_open Tryz.underlying28 Tryz.underlying5 (by kernel_rfl) g1
   refine⟨⟨s.data.toList,bs⟩,e2,hr,?_⟩
   unfold FitsF
   unfold maxLen at hs
   have:s.data.toList.length=s.size:=Array.length_toList
   show s.data.toList.length<=_
   omega
  haveI:Inhabited SFile:=⟨⟨[],[]⟩⟩
  obtain⟨Y,hY⟩:=Deep.choose_lt each
  have hget:∀(j:Nat) (p:SFile),((List.range len).map Y)[j]? = some p->j<len/\p=Y j:=by
   intro j p hj
   rw[List.getElem?_map] at hj
   by_cases h1:j<len
   . rw[List.getElem?_range h1] at hj
     simp only[Option.map_some,Option.some.injEq] at hj
     exact⟨h1,hj.symm⟩
   . rw[List.getElem?_eq_none (by simp;omega)] at hj
     cases hj
  refine⟨(List.range len).map Y,⟨some a,m,by simp,by simpa using hl,hm,fun h0=>?_⟩,fun f hf=>?_,fun n c e=>by injection e with e;cases e⟩
  .
   have h0':0<len:=by
    rcases Nat.eq_zero_or_pos len with h | h
    . subst h;simp at h0
    . exact h
   have hspot:=spot_none5 (hall 0 (by omega)).1 rfl
   obtain⟨b,off,spot⟩:=a
   simp only at hspot
   subst hspot
   refine⟨b,off,rfl,fun j f hj=>?_⟩
   obtain⟨h1,rfl⟩:=hget j f hj
   obtain⟨c0,c1,_,_⟩:=hall j (by omega)
   obtain⟨q0,q1,_⟩:=hY j h1
   rw[Gs.add_plain] at c0 c1
   exact⟨V1 j,by rw[c0,q0],by rw[Nat.add_assoc];exact c1,q1⟩
  . obtain⟨i,hi,rfl⟩:=List.mem_map.1 hf
    exact (hY i (List.mem_range.1 hi)).2.2
end Go.Proofs.YtllgglolcgdehaaGreatDoor
