/- What the developers' Step does; a running machine as an answer, and more. -/
import Derived.Orders
import Derived.Test.YtllgglolcgdehaaGreatDoorXa32
import Derived.Test.YtllgglolcgdehaaGreatDoorXa31
set_option maxRecDepth 100000
set_option maxHeartbeats 16000000
namespace Go.Proofs.YtllgglolcgdehaaGreatDoor
open Go.RowKit Go.Gs Go.Maps
set_option linter.unusedVariables false
variable {G:World->(Nat->Option Own)->Prop}
theorem nouts5 {n:SNode} (h:nodeChk n=0):nouts n<=5:=by
 unfold nouts
 split
 . rcases used_kinds (node_kinds h).1 with ⟨h4 | h4,_⟩ | ⟨h4,_,h5⟩ | ⟨h4,_⟩ | ⟨h4,_⟩ <;> omega
 . split <;> omega
theorem flat_le5:∀(l:List (List UInt8)) (c:Nat),(∀b∈l,b.length<=c)->l.flatten.length<=l.length*c
 | [],c,h=>by simp
 | a::r,c,h=>by
  have h1:=flat_le5 r c (fun b hb=>h b (by simp[hb]))
  have h2:=h a (by simp)
  rw[List.flatten_cons,List.length_append,List.length_cons,Nat.succ_mul]
  omega
theorem smallC_of {M:SMach} (hS:Shape M) (hg:∀p∈M.ps,(∀b∈p.got,b.length<=100000) /\ ∀b∈p.out,b.length<=100000) (hs:M.sunk.length<=100000):SmallC M:=by
 have h60:=hS.g.le60
 have hf:=fchk_zero hS.fok
 refine⟨by omega,by omega,by have:=pipes300 hS;omega,by rw[hS.plen];omega,hs,fun n hn=>?_,fun f hf2=>?_,fun x hx=>?_,fun p hp=>?_⟩
 . have:=(right_ins (hS.g.node n hn)).1
   omega
 . have:=(from_all hf.2 f hf2).2
   omega
 . have h1:=pchk_parts (hS.pipe x hx)
   have h2:=plim_le h1.2.1
   have:=h1.2.2.1
   omega
 .
  obtain⟨i,hi⟩:=List.getElem?_of_mem hp
  obtain⟨n,hn⟩:∃n,M.ns[i]? = some n:=⟨_,gEl (by rw[<- hS.plen];exact (gSm hi).1)⟩
  have hF:=hS.proc i n p hn hi
  have hch:=hS.g.node n (mGt hn)
  have h1:=(right_ins hch).1
  have h2:=nouts5 hch
  have h3:=hF.glen
  have h4:=hF.olen
  exact⟨by omega,by omega,(hg p hp).1,(hg p hp).2⟩
theorem smallM_of {M:SMach} (hS:Shape M) (hg:∀p∈M.ps,(∀b∈p.got,b.length<=48000) /\ ∀b∈p.out,b.length<=90000000) (hs:M.sunk.length<=90000000):SmallM M:=by
 refine⟨fun p hp=>?_,fun p hp=>(hg p hp).2,hs⟩
 obtain⟨i,hi⟩:=List.getElem?_of_mem hp
 obtain⟨n,hn⟩:∃n,M.ns[i]? = some n:=⟨_,gEl (by rw[<- hS.plen];exact (gSm hi).1)⟩
 have hF:=hS.proc i n p hn hi
 have h1:=(right_ins (hS.g.node n (mGt hn))).1
 have h2:=flat_le5 p.got 48000 (hg p hp).1
 have h3:p.got.length*48000<=5*48000:=Nat.mul_le_mul_right _ (by have:=hF.glen;omega)
 omega
def MachAns (w:World) (v:Value) (M:SMach):Prop:=∃an af ax ap aS cn cf cx cp cs,v=machV an af ax ap aS M cn cf cx cp cs/\RMach w an af ax ap aS cn cf cx cp cs M
theorem rnil {w:World}:Reads w (.slice none 0 0) 0 []:=⟨rfl,none,0,rfl,Nat.le_refl _,by simp[maxLen],fun h=>absurd rfl h⟩
theorem MachAns.zero (w:World):MachAns w (.agg #[.slice none 0 0,.slice none 0 0,.slice none 0 0,.slice none 0 0,.slice none 0 0]) zeroM:=
 ⟨none,none,none,none,none,0,0,0,0,0,rfl,⟨none,0,rfl,Nat.le_refl _,by simp[maxLen],fun h=>absurd rfl h⟩,⟨none,0,rfl,Nat.le_refl _,by simp[maxLen],fun h=>absurd rfl h⟩,⟨none,0,rfl,Nat.le_refl _,by simp[maxLen],fun h=>absurd rfl h⟩,⟨none,0,rfl,Nat.le_refl _,by simp[maxLen],fun h=>absurd rfl h⟩,rnil⟩
theorem RunM.mach {w:World} {D r:Nat} {O:Nat->Option Own} {d:RD} (h:RunM G w D r O d):∃an af ax ap aS cn cf cx cp cs,d.vN=.slice an d.M.ns.length cn/\d.vF=.slice af d.M.fs.length cf/\d.vX=.slice ax d.M.pipes.length cx/\d.vP=.slice ap d.M.ps.length cp/\sl d.M.sunk d.sS=.slice aS d.M.sunk.length cs/\RMach w an af ax ap aS cn cf cx cp cs d.M:=by
 obtain⟨hN,hF⟩:=RMem.nodes h
 obtain⟨an,cn,eN,_,_⟩:=hN.shape
 obtain⟨af,cf,eF,_,_⟩:=hF.shape
 obtain⟨hX,hXo⟩:=h.part .pipes
 obtain⟨hP,hPo⟩:=h.part .procs
 obtain⟨⟨ax,cx,eX,hx1,hx2⟩,hxf⟩:=owns_formE hX
 obtain⟨⟨ap,cp,eP,hp1,hp2⟩,hpf⟩:=owns_formE hP
 refine⟨an,af,ax,ap,d.sS.1,cn,cf,cx,cp,d.sS.2,eN,eF,eX,eP,rfl,by rw[eN] at hN;exact hN,by rw[eF] at hF;exact hF,⟨ax,cx,rfl,hx1,hx2,fun hn=>?_⟩,⟨ap,cp,rfl,hp1,hp2,fun hn=>?_⟩,(h.part .sunk).reads⟩
 .
  obtain⟨g,c,e1,_⟩:=hxf hn
  rw[eX] at e1
  injection e1 with e1 _ _
  refine⟨g,0,e1,fun j x hx=>?_⟩
  obtain⟨g',c',s,hv,_,_,_,_,hs,hR,c0,c1,c2,c3,_⟩:=RMem.pipeAt h hx
  rw[eX,e1] at hv
  injection hv with hv _ _
  injection hv with hv
  injection hv with hv
  subst hv
  exact⟨s.1,s.2,by rw[Nat.zero_add];exact c0,by rw[Nat.zero_add];exact c1,by rw[Nat.zero_add];exact c2,by rw[Nat.zero_add];exact c3,hR.1⟩
 .
  obtain⟨g,c,e1,_⟩:=hpf hn
  rw[eP] at e1
  injection e1 with e1 _ _
  refine⟨g,0,e1,fun j p hp=>?_⟩
  obtain⟨g',c',s,hv,_,_,_,_,hs,c0,c1,c2,c3,c4,_,hGo,hOo,_,_⟩:=RMem.procAt h hp
  rw[eP,e1] at hv
  injection hv with hv _ _
  injection hv with hv
  injection hv with hv
  subst hv
  obtain⟨⟨ag,cg,eg,_,_⟩,_⟩:=owns_formE hGo
  obtain⟨⟨ab,cb,eb,_,_⟩,_⟩:=owns_formE hOo
  have hrg:=RMem.gots h hp hs
  have hro:=RMem.outs h hp hs
  rw[eg] at c0 hrg
  rw[eb] at c2 hro
  exact⟨ag,cg,ab,cb,by rw[Nat.zero_add];exact c0,by rw[Nat.zero_add];exact c1,by rw[Nat.zero_add];exact c2,by rw[Nat.zero_add];exact c3,by rw[Nat.zero_add];exact c4,hrg,hro⟩
theorem RunAt.mach {w:World} {D r:Nat} {M:SMach} (h:RunAt G w D r M):∃an af ax ap aS cn cf cx cp cs vI vM,w.heap[r]? = some (.cells #[.slice an M.ns.length cn,.slice af M.fs.length cf,.slice ax M.pipes.length cx,.slice ap M.ps.length cp,.slice aS M.sunk.length cs,vI,vM] 111 (0,0))/\RMach w an af ax ap aS cn cf cx cp cs M:=by
 obtain⟨O,d,h1,rfl⟩:=h
 obtain⟨an,af,ax,ap,aS,cn,cf,cx,cp,cs,e1,e2,e3,e4,e5,h2⟩:=RunM.mach h1
 have h3:=h1.box.1
 rw[e1,e2,e3,e4,e5] at h3
 exact⟨an,af,ax,ap,aS,cn,cf,cx,cp,cs,_,_,h3,h2⟩
def OnlySl (w:World) (x:Nat):Prop:=∀j u,w.cell? ⟨x,j,none⟩=some u -> ∃a n c,u=.slice a n c
theorem cell_apart {w w':World} {X:Nat->Prop} (hk:∀k,¬X k->w'.heap[k]? = w.heap[k]?) {b j:Nat} {u:Value} (hb:¬X b) (h:w.cell? ⟨b,j,none⟩=some u):w'.cell? ⟨b,j,none⟩=some u:=by
 have:=hk b hb
 simp only[World.cell?] at h ⊢
 rw[this]
 exact h
theorem ports_apart {w w':World} {X:Nat->Prop} {v:Value} {ps:List (Int × Int)} (h:RPorts w v ps) (hx:∀x,X x->OnlySl w x) (hk:∀k,¬X k->w'.heap[k]? = w.heap[k]?):RPorts w' v ps:=by
 obtain⟨ao,cap,rfl,h2,h3,h4⟩:=h
 refine⟨ao,cap,rfl,h2,h3,fun hn=>?_⟩
 obtain⟨b,off,rfl,hc⟩:=h4 hn
 refine⟨b,off,rfl,fun j p hp=>?_⟩
 obtain⟨c1,c2⟩:=hc j p hp
 have hb:¬X b:=fun e=>by
  obtain⟨a,n,c,e⟩:=hx b e _ _ c1
  cases e
 exact⟨cell_apart hk hb c1,cell_apart hk hb c2⟩
theorem nodes_apart {w w':World} {X:Nat->Prop} {v:Value} {ns:List SNode} (h:RNodes w v ns) (hx:∀x,X x->OnlySl w x) (hk:∀k,¬X k->w'.heap[k]? = w.heap[k]?):RNodes w' v ns:=by
 obtain⟨ao,cap,rfl,h2,h3,h4⟩:=h
 refine⟨ao,cap,rfl,h2,h3,fun hn=>?_⟩
 obtain⟨b,off,rfl,hc⟩:=h4 hn
 refine⟨b,off,rfl,fun j n hj=>?_⟩
 obtain⟨ai,ci,⟨a0,a1,a2,a3,a4,a5,a6,a7⟩,hp⟩:=hc j n hj
 have hb:¬X b:=fun e=>by
  obtain⟨a,n,c,e⟩:=hx b e _ _ a0
  cases e
 exact⟨ai,ci,⟨cell_apart hk hb a0,cell_apart hk hb a1,cell_apart hk hb a2,cell_apart hk hb a3,cell_apart hk hb a4,cell_apart hk hb a5,cell_apart hk hb a6,cell_apart hk hb a7⟩,ports_apart hp hx hk⟩
theorem bytes_apart {w w':World} {X:Nat->Prop} {v:Value} {bs:List UInt8} (h:Reads w v bs.length (bs.map U)) (hx:∀x,X x->OnlySl w x) (hk:∀k,¬X k->w'.heap[k]? = w.heap[k]?):Reads w' v bs.length (bs.map U):=by
 obtain⟨h1,ao,cap,rfl,h2,h3,h4⟩:=h
 refine⟨h1,ao,cap,rfl,h2,h3,fun hn=>?_⟩
 obtain⟨b,off,rfl,hc⟩:=h4 hn
 refine⟨b,off,rfl,fun j u hu=>?_⟩
 have hb:¬X b:=fun e=>by
  obtain⟨a,n,c,e⟩:=hx b e _ _ (hc j u hu)
  rw[List.getElem?_map] at hu
  cases hq:bs[j]? with
  | none=>rw[hq] at hu;cases hu
  | some y=>
   rw[hq] at hu
   simp only[Option.map_some,Option.some.injEq] at hu
   rw[<- hu] at e
   cases e
 exact cell_apart hk hb (hc j u hu)
theorem files_apart {w w':World} {X:Nat->Prop} {v:Value} {fs:List SFile} (h:RFiles w v fs) (hx:∀x,X x->OnlySl w x) (hk:∀k,¬X k->w'.heap[k]? = w.heap[k]?):RFiles w' v fs:=by
 obtain⟨ao,cap,rfl,h2,h3,h4⟩:=h
 refine⟨ao,cap,rfl,h2,h3,fun hn=>?_⟩
 obtain⟨b,off,rfl,hc⟩:=h4 hn
 refine⟨b,off,rfl,fun j f hj=>?_⟩
 obtain⟨u,a0,a1,a2⟩:=hc j f hj
 have hb:¬X b:=fun e=>by
  obtain⟨a,n,c,e⟩:=hx b e _ _ a0
  cases e
 exact⟨u,cell_apart hk hb a0,cell_apart hk hb a1,bytes_apart a2 hx hk⟩
theorem RMem.apart {w w':World} {D r:Nat} {O:Nat->Option Own} {A:World->(Nat->Option Own)->Prop} {d:RD} (h:RMem w D r O A d) {X:Nat->Prop} (hX:∀x,X x->x<D/\OnlySl w x) (hsz:w'.heap.size=w.heap.size) (hk:∀k,¬X k->w'.heap[k]? = w.heap[k]?):RMem w' D r O A d:=by
 obtain⟨w0,b1,b2,b3,b4⟩:=h.base
 have hle:=h.le
 have hx0:∀x,X x->OnlySl w0 x:=fun x hx j u hu=>by
  refine (hX x hx).2 j u ?_
  have:=b2.block x (hX x hx).1
  simp only[World.cell?] at hu ⊢
  rw[this]
  exact hu
 have hk0:∀k,¬X k->(cutH w' D).heap[k]? = w0.heap[k]?:=fun k hkx=>by
  by_cases hkD:k<D
  . rw[cutH_block (by omega) hkD,hk k hkx,b2.block k hkD]
  . rw[Array.getElem?_eq_none (by rw[cutH_size (by omega)];omega),Array.getElem?_eq_none (by omega)]
 refine⟨fun g o hg=>by rw[hsz];exact h.lo g o hg,⟨cutH w' D,cutH_size (by omega),cutH_below (by omega),nodes_apart b3 hx0 hk0,files_apart b4 hx0 hk0⟩,h.xlen,h.plen,h.slen,h.aux,fun o=>?_⟩
 exact (h.part o).keep h.aux (fun k hk2=>hk k (fun hx=>by have:=(h.lo k o hk2).1;have:=(hX k hx).1;omega)) (fun _ _ _=>rfl) (fun k o2 hk2=>(h.lo k o2 hk2).2) (fun _ _=>rfl)
theorem RunM.machV {w:World} {D r:Nat} {O:Nat->Option Own} {d:RD} (h:RunM G w D r O d) {an af ax ap aS:Option Addr} {cn cf cx cp cs:Nat} (e1:d.vN=.slice an d.M.ns.length cn) (e2:d.vF=.slice af d.M.fs.length cf) (e3:d.vX=.slice ax d.M.pipes.length cx) (e4:d.vP=.slice ap d.M.ps.length cp) (e5:sl d.M.sunk d.sS=.slice aS d.M.sunk.length cs):RMach w an af ax ap aS cn cf cx cp cs d.M:=by
 obtain⟨an',af',ax',ap',aS',cn',cf',cx',cp',cs',f1,f2,f3,f4,f5,h2⟩:=RunM.mach h
 rw[e1] at f1
 rw[e2] at f2
 rw[e3] at f3
 rw[e4] at f4
 rw[e5] at f5
 injection f1 with f1 _ g1
 injection f2 with f2 _ g2
 injection f3 with f3 _ g3
 injection f4 with f4 _ g4
 injection f5 with f5 _ g5
 subst f1 f2 f3 f4 f5 g1 g2 g3 g4 g5
 exact h2
theorem RunAt.machX {w:World} {D r:Nat} {M:SMach} (h:RunAt G w D r M):D<=r /\ ∃an af ax ap aS cn cf cx cp cs vI vM,w.heap[r]? = some (.cells #[.slice an M.ns.length cn,.slice af M.fs.length cf,.slice ax M.pipes.length cx,.slice ap M.ps.length cp,.slice aS M.sunk.length cs,vI,vM] 111 (0,0))/\(∀(X:Nat->Prop) (w':World),(∀x,X x->x<D/\OnlySl w x)->w'.heap.size=w.heap.size->(∀k,¬X k->w'.heap[k]? = w.heap[k]?)->RMach w' an af ax ap aS cn cf cx cp cs M):=by
 obtain⟨O,d,h1,rfl⟩:=h
 obtain⟨an,af,ax,ap,aS,cn,cf,cx,cp,cs,e1,e2,e3,e4,e5,h2⟩:=RunM.mach h1
 have h3:=h1.box.1
 rw[e1,e2,e3,e4,e5] at h3
 exact⟨(h1.lo _ _ h1.box.2).1,an,af,ax,ap,aS,cn,cf,cx,cp,cs,_,_,h3,fun X w' hX hsz hk=>RunM.machV (RMem.apart h1 hX hsz hk) e1 e2 e3 e4 e5⟩
def NewRM (B:Nat) (w:World) (an af ax ap aS:Option Addr) (cn cf cx cp cs:Nat) (M:SMach):Prop:=∀(X:Nat->Prop) (w':World),(∀x,X x->x<B/\OnlySl w x)->w'.heap.size=w.heap.size->(∀k,¬X k->w'.heap[k]? = w.heap[k]?)->RMach w' an af ax ap aS cn cf cx cp cs M
def MachNew (B:Nat) (w:World) (v:Value) (M:SMach):Prop:=∃an af ax ap aS cn cf cx cp cs,v=machV an af ax ap aS M cn cf cx cp cs/\NewRM B w an af ax ap aS cn cf cx cp cs M
theorem NewRM.self {B:Nat} {w:World} {an af ax ap aS:Option Addr} {cn cf cx cp cs:Nat} {M:SMach} (h:NewRM B w an af ax ap aS cn cf cx cp cs M):RMach w an af ax ap aS cn cf cx cp cs M:=h (fun _=>False) w (fun _ hx=>hx.elim) rfl (fun _ _=>rfl)
theorem MachNew.ans {B:Nat} {w:World} {v:Value} {M:SMach} (h:MachNew B w v M):MachAns w v M:=by
 obtain⟨an,af,ax,ap,aS,cn,cf,cx,cp,cs,e,h1⟩:=h
 exact⟨an,af,ax,ap,aS,cn,cf,cx,cp,cs,e,h1.self⟩
theorem MachNew.zero (B:Nat) (w:World):MachNew B w (.agg #[.slice none 0 0,.slice none 0 0,.slice none 0 0,.slice none 0 0,.slice none 0 0]) zeroM:=by
 refine⟨none,none,none,none,none,0,0,0,0,0,rfl,fun X w' _ _ _=>?_⟩
 obtain⟨an,af,ax,ap,aS,cn,cf,cx,cp,cs,e,h1⟩:=MachAns.zero w'
 unfold machV at e
 simp at e
 obtain⟨⟨rfl,_,rfl⟩,⟨rfl,_,rfl⟩,⟨rfl,_,rfl⟩,⟨rfl,_,rfl⟩,rfl,_,rfl⟩:=e
 exact h1
theorem machNew_of {w3 wf:World} {B D bm:Nat} {M:SMach} {an af ax ap aS:Option Addr} {cn cf cx cp cs:Nat} (hRM:NewRM D w3 an af ax ap aS cn cf cx cp cs M) (hbm:bm<D) (hon:OnlySl w3 bm) (hB:B<=bm) (hs:wf.heap.size=w3.heap.size) (hk:∀k,k≠bm->wf.heap[k]? = w3.heap[k]?):NewRM B wf an af ax ap aS cn cf cx cp cs M:=by
 intro X w' hX hsz hk2
 refine hRM (fun k=>X k\/k=bm) w' (fun x hx=>?_) (hsz.trans hs) (fun k hkx=>(hk2 k (fun h=>hkx (.inl h))).trans (hk k (fun h=>hkx (.inr h))))
 rcases hx with hx | hx
 .
  obtain⟨h1,h2⟩:=hX x hx
  refine⟨by omega,fun j u hu=>h2 j u ?_⟩
  have:=hk x (by omega)
  simp only[World.cell?] at hu ⊢
  rw[this]
  exact hu
 . rw[hx]
   exact⟨hbm,hon⟩
theorem only_of {w:World} {bm:Nat} {a b c d e:Value} (h:BX w bm a b c d e):OnlySl w (bm+1):=by
 intro j u hu
 rw[cell_of_row _ _ _ _ _ _ h.2] at hu
 have:j=0\/j=1\/j=2\/j=3\/j=4\/5<=j:=by omega
 rcases this with rfl | rfl | rfl | rfl | rfl | hj
 all_goals first | (simp at hu;exact⟨_,_,_,hu.symm⟩) | (rw[Array.getElem?_eq_none (by simpa using hj)] at hu;cases hu)
theorem mcheckA_is (an af ax ap aS:Option Addr) (cn cf cx cp cs:Nat) (M:SMach) (w:World) (hM:RMach w an af ax ap aS cn cf cx cp cs M) (hfit:FitsM M) :
 Calls Tryz.prog 18 #[machV an af ax ap aS M cn cf cx cp cs] w fun e w'=>e=.returned (.int .i64 (mchk M))/\Below w.heap.size w w':=
 mcheck_is an af ax ap aS cn cf cx cp cs M w hM hfit (fun W hW=>gcheck_is M.ns an cn W (hM.nodes.below hW) hfit.nodes) (fun W hW=>fcheck_is af cf M.fs W (hM.files.below hW) hfit.files)
end Go.Proofs.YtllgglolcgdehaaGreatDoor
namespace Go.Proofs.YtllgglolcgdehaaGreatDoor
open Go.RowKit Go.Gs Go.Maps
set_option linter.unusedVariables false
def stepR (M:SMach) (i:Int):SMach × Int:=if mchk M≠0 then (zeroM,mchk M) else if (stepS M i).2≠0 then (zeroM,(stepS M i).2) else stepS M i
theorem StepN_is (an af ax ap aS:Option Addr) (cn cf cx cp cs:Nat) (M:SMach) (i:Int) (w:World) (h:RMach w an af ax ap aS cn cf cx cp cs M) (hfit:FitsM M) (hE:∀W,Below w.heap.size w W->KnownE W) :
 Calls Tryz.prog 14 #[machV an af ax ap aS M cn cf cx cp cs,.int .i64 i] w fun e w'=>∃v,e=.returned (.tuple #[v,.int .i64 (stepR M i).2])/\MachNew w.heap.size w' v (stepR M i).1/\Below w.heap.size w w':=by
 have HCK:Hid (∀W,Below w.heap.size w W->Calls Tryz.prog 18 #[machV an af ax ap aS M cn cf cx cp cs] W fun e w'=>e=.returned (.int .i64 (mchk M))/\Below W.heap.size W w'):=(show ∀W,_ from fun W hW=>mcheckA_is an af ax ap aS cn cf cx cp cs M W (h.below hW) hfit)
 have HST:Hid (mchk M=0 -> ∀W,Below w.heap.size w W->Calls Tryz.prog 56 #[machV an af ax ap aS M cn cf cx cp cs] W fun e w'=>∃D r,e=.returned (.pointer (some ⟨r,0,none⟩))/\RunAt NoG w' D r M/\W.heap.size<=D/\Below W.heap.size W w'):=(show mchk M=0 -> ∀W,_ from fun h0 W hW=>by
  obtain⟨q1,q2,q3⟩:=mchk_zero h0
  exact started_is an af ax ap aS cn cf cx cp cs M W (h.below hW) (smallC_of q1 (fun p hp=>⟨fun b hb=>by have:=(q2 p hp).1 b hb;omega,fun b hb=>by have:=(q2 p hp).2 b hb;omega⟩) (by omega)) q1 hfit.nodes)
 have HSP:Hid (mchk M=0 -> ∀(D r:Nat) (W:World),RunAt NoG W D r M->w.heap.size<=D->Below w.heap.size w W->Calls Tryz.prog 57 #[.pointer (some ⟨r,0,none⟩),.int .i64 i] W fun e w'=>e=.returned (.int .i64 (stepS M i).2)/\RunAt NoG w' D r (stepS M i).1/\Below D W w'):=(show mchk M=0 -> ∀(D r:Nat) (W:World),_ from fun h0 D r W hR hD hW=>by
  obtain⟨q1,q2,q3⟩:=mchk_zero h0
  obtain⟨O,d,hR1,rfl⟩:=hR
  exact stepE_is D r O d i W hR1 q1 hfit.nodes (smallM_of q1 (fun p hp=>⟨fun b hb=>by have:=(q2 p hp).1 b hb;omega,fun b hb=>by have:=(q2 p hp).2 b hb;omega⟩) (by omega)) (fun V hV=>hE V (hW.trans (hV.mono hD))))
 unfold machV at HCK HST ⊢
 obtain⟨RES,hRES⟩:∃z,z=stepR M i:=⟨_,rfl⟩
 rw[<- hRES]
 unfold stepR at hRES
 generalize M.ns.length=NN at *
 generalize M.fs.length=NF at *
 generalize M.pipes.length=NX at *
 generalize M.ps.length=NP at *
 generalize M.sunk.length=NS at *
 clear h hfit hE
 by_cases h0:mchk M=0
 .
  have HST2:Hid _:=HST.out h0
  have HSP2:Hid _:=HSP.out h0
  rw[if_neg (by simpa using h0)] at hRES
  rw[h0] at HCK
  have HRES:Hid (RES=if (stepS M i).2≠0 then (zeroM,(stepS M i).2) else stepS M i):=hRES
  clear HST HSP hRES h0
  go_enter Tryz.func14,Tryz.ntmps14
  go_wp2_with fail
  obtain⟨W0,hW0⟩:∃W,W=(w.alloc (.cells #[.slice an NN cn,.slice af NF cf,.slice ax NX cx,.slice ap NP cp,.slice aS NS cs] 30)).alloc (.cells #[.slice none 0 0,.slice none 0 0,.slice none 0 0,.slice none 0 0,.slice none 0 0] 30):=⟨_,rfl⟩
  rw[<- hW0]
  have hB0:Below w.heap.size w W0:=by rw[hW0];exact ((Below.refl _ w).alloc (Nat.le_refl _) _).alloc (by simp) _
  have hX0:BX W0 w.heap.size (.slice an NN cn) (.slice af NF cf) (.slice ax NX cx) (.slice ap NP cp) (.slice aS NS cs):=by
   rw[hW0]
   exact⟨heap_alloc2_old _ _ _,heap_alloc2_new _ _ _⟩
  refine Calls.mono (HCK.out W0 hB0) ?_
  rintro e w1 ⟨rfl,hb1⟩
  have hB1:Below w.heap.size w w1:=hB0.trans (hb1.mono hB0.size)
  have hX1:=BX.below hX0 hb1
  obtain⟨x0,x1,x2,x3,x4,_⟩:=cells5C hX1.1
  have HB1:Hid (Below w.heap.size w w1):=hB1
  have HX1:Hid (BX w1 w.heap.size (.slice an NN cn) (.slice af NF cf) (.slice ax NX cx) (.slice ap NP cp) (.slice aS NS cs)):=hX1
  clear hW0 hB0 hX0 hb1 hB1 hX1 HCK
  go_wp2_with fail
  refine Calls.mono (HST2.out w1 HB1.out) ?_
  rintro e w2 ⟨D,r,rfl,hR2,hD,hb2⟩
  have hB2:Below w.heap.size w w2:=HB1.out.trans (hb2.mono HB1.out.size)
  have hDw:w.heap.size<=D:=by have:=HB1.out.size;omega
  have hX2:=BX.below HX1.out hb2
  have HX2:Hid (BX w2 w.heap.size (.slice an NN cn) (.slice af NF cf) (.slice ax NX cx) (.slice ap NP cp) (.slice aS NS cs)):=hX2
  have HC3:Hid _:=HSP2.out D r w2 hR2 hDw hB2
  have HB2:Hid (Below w.heap.size w w2):=hB2
  have HDX:Hid (w.heap.size+2<=D):=(show _<=_ by have:=BX.lt HX1.out;omega)
  have HDW:Hid (w.heap.size<=D):=hDw
  clear hR2 hD hb2 hB2 hDw hX2 HST2 HSP2 x0 x1 x2 x3 x4 HX1
  go_wp2_with fail
  refine Calls.mono HC3.out ?_
  rintro e w3 ⟨rfl,hR3,hb3⟩
  have hB3:Below w.heap.size w w3:=HB2.out.trans (hb3.mono HDW.out)
  have hX3:BX w3 w.heap.size (.slice an NN cn) (.slice af NF cf) (.slice ax NX cx) (.slice ap NP cp) (.slice aS NS cs):=BX.keep HX2.out (fun k hk=>hb3.block k (by have:=HDX.out;omega))
  have HB3:Hid (Below w.heap.size w w3):=hB3
  obtain⟨y0,y1,y2,y3,y4,yf⟩:=cells5C hX3.2
  have yf0:=yf 0
  have yf1:=yf 1
  have yf2:=yf 2
  have yf3:=yf 3
  have yf4:=yf 4
  obtain⟨E,hE⟩:∃z,z=(stepS M i).2:=⟨_,rfl⟩
  rw[<- hE]
  by_cases he:E=0
  .
   have HR5:Hid (RES=stepS M i):=(show _=_ by rw[HRES.out,if_neg (by rw[<- hE];simpa using he)])
   obtain⟨hrD,bn,bf,bx,bp,bS,dn,df,dx,dp,ds,vI,vM,hbox,hRM⟩:=RunAt.machX hR3
   have HRM:Hid (∀(w':World),w'.heap.size=w3.heap.size->(∀k,k≠w.heap.size+1->w'.heap[k]? = w3.heap[k]?)->NewRM w.heap.size w' bn bf bx bp bS dn df dx dp ds (stepS M i).1):=(show ∀(w':World),_ from fun w' h1 h2=>machNew_of hRM (by have:=HDX.out;omega) (only_of hX3) (by omega) h1 h2)
   obtain⟨c0,c1,c2,c3,c4,_,_⟩:=cells7 hbox
   have hrw:r≠w.heap.size+1:=by have:=HDX.out;omega
   have hrw':w.heap.size+1≠r:=by omega
   subst he
   generalize hn5:(stepS M i).1.ns.length=N5 at *
   generalize hf5:(stepS M i).1.fs.length=F5 at *
   generalize hx5:(stepS M i).1.pipes.length=X5 at *
   generalize hp5:(stepS M i).1.ps.length=P5 at *
   generalize hs5:(stepS M i).1.sunk.length=S5 at *
   clear hR3 hb3 hB3 hX3 yf HRES HC3 hbox hRM HX2
   go_wp2_with fail
   (try simp only[Exit.inBlock,Exit.then])
   refine bodyPost_ret (v:=.tuple #[.agg #[.slice bn N5 dn,.slice bf F5 df,.slice bx X5 dx,.slice bp P5 dp,.slice bS S5 ds],.int .i64 0]) ?_ rfl ?_
   . rw[results_cell_tmp rfl]
     go_simp
   .
    refine⟨.agg #[.slice bn N5 dn,.slice bf F5 df,.slice bx X5 dx,.slice bp P5 dp,.slice bS S5 ds],?_,?_,?_⟩
    . rw[HR5.out,<- hE]
    . rw[HR5.out]
      have hoff:NewRM w.heap.size ((((((w3.setCell ⟨w.heap.size+1,0,none⟩ (.slice bn N5 dn)).setCell ⟨w.heap.size+1,1,none⟩ (.slice bf F5 df)).setCell ⟨w.heap.size+1,2,none⟩ (.slice bx X5 dx)).setCell ⟨w.heap.size+1,3,none⟩ (.slice bp P5 dp)).setCell ⟨w.heap.size+1,4,none⟩ (.slice bS S5 ds))) bn bf bx bp bS dn df dx dp ds (stepS M i).1:=HRM.out _ (by simp) (fun k hk=>by
       rw[Below.heap_setCell _ _ _ _ hk,Below.heap_setCell _ _ _ _ hk,Below.heap_setCell _ _ _ _ hk,Below.heap_setCell _ _ _ _ hk,Below.heap_setCell _ _ _ _ hk])
      exact⟨bn,bf,bx,bp,bS,dn,df,dx,dp,ds,by unfold machV;rw[hn5,hf5,hx5,hp5,hs5],hoff⟩
    . repeat (first | refine Below.setCell ?_ (by simp) _ | exact HB3.out)
  .
   have HR5:Hid (RES=(zeroM,E)):=(show _=_ by rw[HRES.out,if_pos (by rw[<- hE];exact he),<- hE])
   clear hR3 hb3 hB3 hX3 yf HRES HC3 hE HX2
   go_wp2_with fail
   (try simp only[Exit.inBlock,Exit.then])
   refine bodyPost_ret (v:=.tuple #[.agg #[.slice none 0 0,.slice none 0 0,.slice none 0 0,.slice none 0 0,.slice none 0 0],.int .i64 E]) ?_ rfl ?_
   . rw[results_cell_tmp rfl]
     go_simp
   . rw[HR5.out]
     exact⟨_,rfl,MachNew.zero _ _,by repeat (first | refine Below.setCell ?_ (by simp) _ | exact HB3.out)⟩
 .
  obtain⟨K,hK⟩:∃z,z=mchk M:=⟨_,rfl⟩
  rw[<- hK] at HCK h0
  rw[if_pos (by rw[<- hK];exact h0)] at hRES
  rw[<- hK] at hRES
  have HRES:Hid (RES=(zeroM,K)):=hRES
  clear HST HSP hRES hK
  go_enter Tryz.func14,Tryz.ntmps14
  go_wp2_with fail
  obtain⟨W0,hW0⟩:∃W,W=(w.alloc (.cells #[.slice an NN cn,.slice af NF cf,.slice ax NX cx,.slice ap NP cp,.slice aS NS cs] 30)).alloc (.cells #[.slice none 0 0,.slice none 0 0,.slice none 0 0,.slice none 0 0,.slice none 0 0] 30):=⟨_,rfl⟩
  rw[<- hW0]
  have hB0:Below w.heap.size w W0:=by rw[hW0];exact ((Below.refl _ w).alloc (Nat.le_refl _) _).alloc (by simp) _
  have hX0:BX W0 w.heap.size (.slice an NN cn) (.slice af NF cf) (.slice ax NX cx) (.slice ap NP cp) (.slice aS NS cs):=by
   rw[hW0]
   exact⟨heap_alloc2_old _ _ _,heap_alloc2_new _ _ _⟩
  refine Calls.mono (HCK.out W0 hB0) ?_
  rintro e w1 ⟨rfl,hb1⟩
  have HB1:Hid (Below w.heap.size w w1):=hB0.trans (hb1.mono hB0.size)
  have hX1:=BX.below hX0 hb1
  obtain⟨y0,y1,y2,y3,y4,yf⟩:=cells5C hX1.2
  have yf0:=yf 0
  have yf1:=yf 1
  have yf2:=yf 2
  have yf3:=yf 3
  have yf4:=yf 4
  clear hW0 hB0 hX0 hb1 hX1 HCK yf
  go_wp2_with fail
  (try simp only[Exit.inBlock,Exit.then])
  refine bodyPost_ret (v:=.tuple #[.agg #[.slice none 0 0,.slice none 0 0,.slice none 0 0,.slice none 0 0,.slice none 0 0],.int .i64 K]) ?_ rfl ?_
  . rw[results_cell_tmp rfl]
    go_simp
  . rw[HRES.out]
    exact⟨_,rfl,MachNew.zero _ _,by repeat (first | refine Below.setCell ?_ (by simp) _ | exact HB1.out)⟩
theorem StepE_is (an af ax ap aS:Option Addr) (cn cf cx cp cs:Nat) (M:SMach) (i:Int) (w:World) (h:RMach w an af ax ap aS cn cf cx cp cs M) (hfit:FitsM M) (hE:∀W,Below w.heap.size w W->KnownE W) :
 Calls Tryz.prog 14 #[machV an af ax ap aS M cn cf cx cp cs,.int .i64 i] w fun e w'=>∃v,e=.returned (.tuple #[v,.int .i64 (stepR M i).2])/\MachAns w' v (stepR M i).1/\Below w.heap.size w w':=by
 refine (StepN_is an af ax ap aS cn cf cx cp cs M i w h hfit hE).mono ?_
 rintro e w' ⟨v,h1,h2,h3⟩
 exact⟨v,h1,h2.ans,h3⟩
end Go.Proofs.YtllgglolcgdehaaGreatDoor
namespace Go.Proofs.YtllgglolcgdehaaGreatDoor
open Go.RowKit Go.Gs Go.Maps
set_option linter.unusedVariables false
variable {G:World->(Nat->Option Own)->Prop}
def NotOver (F:Nat):Prop:=∀(a:Option Addr) (n c:Nat) (pos:Int) (a':Option Addr) (n' c':Nat) (rd o:Bool) (w:World),Calls Tryz.prog F #[.agg #[.slice a n c,.int .i64 pos,.slice a' n' c',.bool rd,.bool o]] w fun e w'=>e=.returned (.bool (!o))/\Below w.heap.size w w'
theorem over1_is:NotOver 139:=by
 intro a n c pos a' n' c' rd o w
 go_enter Tryz.func139,Tryz.ntmps139
 go_wp2_with fail
 go_ret
 exact⟨rfl,boxE⟩
theorem indexP_is (F:Nat) (hF:NotOver F) (hE:∀args w,(callFunc F args).run Tryz.prog w=.ok (.enter F args) w) (al:Option Addr) (cl:Nat) (ps:List SProc) (w:World) (hl:RProcs w (.slice al ps.length cl) ps) :
 Calls Tryz.prog 153 #[.slice al ps.length cl,.func (.func F) #[] #[]] w fun e w'=>∃i:Int,e=.returned (.int .i64 i)/\((ps.all (fun p=>p.ov)=false->0<=i)/\(0<=i->ps.all (fun p=>p.ov)=false))/\Below w.heap.size w w':=by
 have hle:=rprocs_le hl
 have HL:Hid (RProcs w (.slice al ps.length cl) ps):=hl
 have HF:Hid (NotOver F):=hF
 obtain⟨M,hM⟩:∃M,M=ps.length:=⟨_,rfl⟩
 have HM:Hid (M=ps.length):=hM
 rw[<- hM] at HL hle ⊢
 clear hl hF hM
 go_enter Tryz.func153,Tryz.ntmps153
 go_wp2_with fail
 go_loopw [8] (fun i wr=>∃k:Nat,k<=M/\i=.int .i64 k/\Hid (Below w.heap.size w wr)/\Hid (∀p∈ps.take k,p.ov=true)) (fun i _=>M-(intOf i).toNat)
 case atStart=>exact⟨0,Nat.zero_le _,rfl,Below.refl _ _,(show ∀p∈ps.take 0,p.ov=true by simp)⟩
 case round=>
  obtain⟨k,hk,rfl,hbel,hno⟩:=hrel
  by_cases hlt:k<M
  .
   obtain⟨p,hp⟩:∃p,ps[k]? = some p:=⟨_,gEl (by have:=HM.out;omega)⟩
   obtain⟨b,off,ag,cg,ab,cb,rfl,c0,c1,c2,c3,c4,_,_⟩:=(RProcs.below HL.out hbel.out).at hp
   have HC:Hid _:=HF.out ag p.got.length cg p.pos ab p.out.length cb p.rd p.ov wr
   have HD2:Hid (p.ov=false->ps.all (fun p=>p.ov)=false):=(show p.ov=false->_ from fun h=>by
    rw[List.all_eq_false]
    exact⟨p,mGt hp,by simp[h]⟩)
   have HD3:Hid (p.ov=true -> ∀q∈ps.take (k+1),q.ov=true):=(show p.ov=true -> ∀q∈ps.take (k+1),q.ov=true from fun h q hq=>by
    rw[List.take_add_one,hp] at hq
    rcases List.mem_append.1 hq with hq | hq
    . exact hno.out q hq
    . simp at hq
      rw[hq]
      exact h)
   generalize p.got.length=n1 at *
   generalize p.out.length=n2 at *
   generalize p.pos=n3 at *
   generalize p.rd=n4 at *
   generalize p.ov=n5 at *
   clear hp
   go_wp2_with fail
   refine Calls.mono HC.out ?_
   rintro e w3 ⟨rfl,hb3⟩
   have HB3:Hid (Below w.heap.size w w3):=hbel.out.trans (hb3.mono hbel.out.size)
   clear hb3 HC c0 c1 c2 c3 c4
   cases n5 with
   | false=>
    go_wp2_with fail
    go_ret
    exact⟨_,rfl,⟨fun _=>by omega,fun _=>HD2.out trivial⟩,HB3.out⟩
   | true=>
    go_wp2_with fail
    go_roundw
    case rel=>exact⟨k+1,by omega,by go_num,HB3,HD3.out trivial⟩
    case measure=>simp[intOf];omega
  .
   have HN:Hid (ps.all (fun p=>p.ov)=true):=(show _=_ by
    rw[List.all_eq_true]
    intro p hp
    exact hno.out p (by rw[List.take_of_length_le (by have:=HM.out;omega)];exact hp))
   clear hno
   go_wp2_with fail
   go_ret
   exact⟨_,rfl,⟨fun e=>(by rw[HN.out] at e;cases e),fun e=>absurd e (by omega)⟩,hbel.out⟩
theorem containsP_is (F:Nat) (hF:NotOver F) (hE:∀args w,(callFunc F args).run Tryz.prog w=.ok (.enter F args) w) (al:Option Addr) (cl:Nat) (ps:List SProc) (w:World) (hl:RProcs w (.slice al ps.length cl) ps) :
 Calls Tryz.prog 96 #[.slice al ps.length cl,.func (.func F) #[] #[]] w fun e w'=>e=.returned (.bool (!ps.all (fun p=>p.ov)))/\Below w.heap.size w w':=by
 have HI:Hid _:=indexP_is F hF hE al cl ps w hl
 generalize ps.all (fun p=>p.ov)=A at *
 generalize ps.length=N at *
 clear hF hE hl
 go_enter Tryz.func96,Tryz.ntmps96
 go_wp2_with fail
 refine Calls.mono HI.out ?_
 rintro e w1 ⟨i,rfl,hi,hb⟩
 have HB:Hid (Below w.heap.size w w1):=hb
 have HI2:Hid (decide (0<=i) = !A):=(show _=_ by
  cases hA:A with
  | true=>
   rw[decide_eq_false (fun h=>by have:=hi.2 h;rw[hA] at this;cases this)]
   rfl
  | false=>
   rw[decide_eq_true (hi.1 hA)]
   rfl)
 clear hi hb HI
 by_cases h:0<=i
 . go_wp2_with fail
   go_ret
   exact⟨by rw[<- HI2.out];first | rfl | simp[h],HB.out⟩
 . go_wp2_with fail
   go_ret
   exact⟨by rw[<- HI2.out];first | rfl | simp[h],HB.out⟩
theorem overE_is (D r:Nat) (M:SMach) (w:World) (h:RunAt G w D r M):Calls Tryz.prog 87 #[.pointer (some ⟨r,0,none⟩)] w fun e w'=>e=.returned (.bool (overS M))/\Below w.heap.size w w':=by
 obtain⟨an,af,ax,ap,aS,cn,cf,cx,cp,cs,vI,vM,hbox,hRM⟩:=RunAt.mach h
 have HC:Hid _:=containsP_is _ over1_is (enters_of Tryz.func139 (by kernel_rfl) rfl) ap cp M.ps w hRM.procs
 obtain⟨b0,b1,b2,b3,b4,b5,b6⟩:=cells7 hbox
 have e1:overS M=M.ps.all (fun p=>p.ov):=rfl
 rw[e1]
 generalize M.ps.all (fun p=>p.ov)=A at *
 generalize M.ps.length=NP at *
 clear h hbox hRM b0 b1 b2 b4 b5 b6 e1
 go_enter Tryz.func87,Tryz.ntmps87
 go_wp2_with fail
 refine Calls.mono HC.out ?_
 rintro e w1 ⟨rfl,hb⟩
 have HB:Hid (Below w.heap.size w w1):=hb
 clear hb HC
 cases A
 all_goals
  go_wp2_with fail
  go_ret
  exact⟨rfl,HB.out⟩
structure InvM (ns:List SNode) (fs:List SFile) (I:SMach->Prop):Prop where
 shape:∀M,I M->Shape M
 small:∀M,I M->SmallM M
 nodes:∀M,I M->M.ns=ns/\M.fs=fs
 step:∀M a,I M->I (stepN M a).1
theorem InvM.to {ns:List SNode} {fs:List SFile} {I:SMach->Prop} (h:InvM ns fs I) {M:SMach} (hM:I M):∀k,I (roundTo M k).1
 | 0=>hM
 | k+1=>h.step _ _ (h.to hM k)
theorem roundE_is (ns:List SNode) (fs:List SFile) (I:SMach->Prop) (hI:InvM ns fs I) (hfit:∀n∈ns,FitsN n) (D r:Nat) (M:SMach) (w:World) (h:RunAt G w D r M) (hM:I M) (hE:∀W,Below D w W->KnownE W) :
 Calls Tryz.prog 88 #[.pointer (some ⟨r,0,none⟩)] w fun e w'=>e=.returned (.bool (roundS M).2)/\RunAt G w' D r (roundS M).1/\Below D w w':=by
 have HSTEP:Hid (∀(k:Nat) (W:World),k<M.ps.length->RunAt G W D r (roundTo M k).1->Below D w W->Calls Tryz.prog 57 #[.pointer (some ⟨r,0,none⟩),.int .i64 k] W fun e w'=>e=.returned (.int .i64 (stepN (roundTo M k).1 k).2)/\RunAt G w' D r (stepN (roundTo M k).1 k).1/\Below D W w'):=(show ∀(k:Nat) (W:World),_ from fun k W hk hR hW=>by
  have hIk:=hI.to hM k
  have hSk:=hI.shape _ hIk
  have hpl:(roundTo M k).1.ps.length=M.ps.length:=by rw[hSk.plen,(hI.nodes _ hIk).1,<- (hI.nodes _ hM).1,(hI.shape _ hM).plen]
  obtain⟨O,d,hR1,hd⟩:=hR
  have:=stepE_is D r O d (k:Int) W hR1 (by rw[hd];exact hSk) (by rw[hd,(hI.nodes _ hIk).1];exact hfit) (by rw[hd];exact hI.small _ hIk) (fun V hV=>hE V (hW.trans hV))
  rw[hd] at this
  have e1:stepS (roundTo M k).1 (k:Int)=stepN (roundTo M k).1 k:=by
   unfold stepS
   rw[if_neg (by omega),Int.toNat_natCast]
  rw[e1] at this
  exact this)
 obtain⟨an,af,ax,ap,aS,cn,cf,cx,cp,cs,vI,vM,hbox,hRM⟩:=RunAt.mach h
 obtain⟨b0,b1,b2,b3,b4,b5,b6⟩:=cells7 hbox
 have HH:Hid (RunAt G w D r M):=h
 unfold roundS
 obtain⟨NP,hNP⟩:∃z,z=M.ps.length:=⟨_,rfl⟩
 rw[<- hNP] at HSTEP b3 ⊢
 have HNB:Hid (NP<=100):=(show _<=_ by have:=(hI.shape _ hM).plen;have:=(hI.shape _ hM).g.le60;omega)
 have hnp:=HNB.out
 clear h hM hE hI hfit hbox hRM hNP b0 b1 b2 b4 b5 b6
 go_enter Tryz.func88,Tryz.ntmps88
 go_wp2_with fail
 clear b3
 go_loopw [3,11] (fun z3 z wr=>∃k:Nat,k<=NP/\z3=.bool (roundTo M k).2/\z=.int .i64 k/\Hid (RunAt G wr D r (roundTo M k).1)/\Hid (Below D w wr)) (fun _ z _=>NP-(intOf z).toNat)
 case atStart=>exact⟨0,Nat.zero_le _,rfl,rfl,HH,Below.refl _ _⟩
 case round=>
  obtain⟨k,hk,rfl,rfl,hR,hbel⟩:=hrel
  by_cases hlt:k<NP
  .
   have HC:Hid _:=HSTEP.out k wr hlt hR.out hbel.out
   obtain⟨B,hB⟩:∃z,z=(roundTo M k).2:=⟨_,rfl⟩
   obtain⟨E,hE⟩:∃z,z=(stepN (roundTo M k).1 k).2:=⟨_,rfl⟩
   have HE2:Hid ((roundTo M (k+1)).2=(B || decide (E=0))/\(roundTo M (k+1)).1=(stepN (roundTo M k).1 k).1):=⟨by rw[hB,hE];rfl,rfl⟩
   rw[<- hE] at HC
   rw[<- hB]
   clear hR hB hE
   go_wp2_with fail
   refine Calls.mono HC.out ?_
   rintro e w3 ⟨rfl,hR3,hb3⟩
   have HR3:Hid (RunAt G w3 D r (roundTo M (k+1)).1):=(show RunAt G _ _ _ _ by rw[HE2.out.2];exact hR3)
   have HB3:Hid (Below D w w3):=hbel.out.trans hb3
   clear hR3 hb3 HC
   by_cases he:E=0
   . have HQ:Hid ((roundTo M (k+1)).2=true):=(show _=_ by rw[HE2.out.1,he];simp)
     go_wp2_with fail
     go_roundw
     case rel=>exact⟨k+1,by omega,by rw[HQ.out],by go_num,HR3,HB3⟩
     case measure=>simp[intOf];omega
   . have HQ:Hid ((roundTo M (k+1)).2=B):=(show _=_ by rw[HE2.out.1,decide_eq_false he,Bool.or_false])
     go_wp2_with fail
     go_roundw
     case rel=>exact⟨k+1,by omega,by rw[HQ.out],by go_num,HR3,HB3⟩
     case measure=>simp[intOf];omega
  . have e:k=NP:=by omega
    subst e
    go_wp2_with fail
    go_ret
    exact⟨rfl,hR.out,hbel.out⟩
end Go.Proofs.YtllgglolcgdehaaGreatDoor
namespace Go.Proofs.YtllgglolcgdehaaGreatDoor
open Go.RowKit Go.Gs Go.Maps
set_option linter.unusedVariables false
theorem least_ex (P:Nat->World->Prop):∃f:World->Nat,∀wr k,P k wr->P (f wr) wr/\f wr<=k:=by
 have h1:∀wr,∃n,∀k,P k wr->P n wr/\n<=k:=by
  intro wr
  by_cases h:∃k,P k wr
  .
   obtain⟨k,hk⟩:=h
   induction k using Nat.strongRecOn with
   | ind k ih=>
    by_cases h2:∃j,j<k/\P j wr
    . obtain⟨j,hj,hp⟩:=h2
      exact ih j hj hp
    . refine⟨k,fun q hq=>⟨hk,?_⟩⟩
      by_cases h3:k<=q
      . exact h3
      . exact absurd ⟨q,by omega,hq⟩ h2
  . exact⟨0,fun k hk=>absurd ⟨k,hk⟩ h⟩
 exact⟨fun wr=>Classical.choose (h1 wr),fun wr=>Classical.choose_spec (h1 wr)⟩
theorem RunAt.below {w w':World} {D r:Nat} {M:SMach} (h:RunAt NoG w D r M) (hb:Below w.heap.size w w'):RunAt NoG w' D r M:=by
 obtain⟨O,d,h1,h2⟩:=h
 exact⟨O,d,RMem.below h1 hb,h2⟩
def finR (M:SMach) (res:SMach × Int):SMach × Int:=if mchk M≠0 then (zeroM,mchk M) else res
theorem FinishN_is (an af ax ap aS:Option Addr) (cn cf cx cp cs:Nat) (M:SMach) (w:World) (h:RMach w an af ax ap aS cn cf cx cp cs M) (hfit:FitsM M) (hE:∀W,Below w.heap.size w W->KnownE W)
 (I:SMach->Prop) (hI:mchk M=0->InvM M.ns M.fs I) (hM:mchk M=0->I M) (k0:Nat) (res:SMach × Int) (hfin:mchk M=0->Fins k0 M res) :
 Calls Tryz.prog 25 #[machV an af ax ap aS M cn cf cx cp cs] w fun e w'=>∃v,e=.returned (.tuple #[v,.int .i64 (finR M res).2])/\MachNew w.heap.size w' v (finR M res).1/\Below w.heap.size w w':=by
 have HCK:Hid (∀W,Below w.heap.size w W->Calls Tryz.prog 18 #[machV an af ax ap aS M cn cf cx cp cs] W fun e w'=>e=.returned (.int .i64 (mchk M))/\Below W.heap.size W w'):=(show ∀W,_ from fun W hW=>mcheckA_is an af ax ap aS cn cf cx cp cs M W (h.below hW) hfit)
 have HST:Hid (mchk M=0 -> ∀W,Below w.heap.size w W->Calls Tryz.prog 56 #[machV an af ax ap aS M cn cf cx cp cs] W fun e w'=>∃D r,e=.returned (.pointer (some ⟨r,0,none⟩))/\RunAt NoG w' D r M/\W.heap.size<=D/\Below W.heap.size W w'):=(show mchk M=0 -> ∀W,_ from fun h0 W hW=>by
  obtain⟨q1,q2,q3⟩:=mchk_zero h0
  exact started_is an af ax ap aS cn cf cx cp cs M W (h.below hW) (smallC_of q1 (fun p hp=>⟨fun b hb=>by have:=(q2 p hp).1 b hb;omega,fun b hb=>by have:=(q2 p hp).2 b hb;omega⟩) (by omega)) q1 hfit.nodes)
 have HRD:Hid (mchk M=0 -> ∀(D r:Nat) (M':SMach) (W:World),RunAt NoG W D r M'->I M'->w.heap.size<=D->Below w.heap.size w W->Calls Tryz.prog 88 #[.pointer (some ⟨r,0,none⟩)] W fun e w'=>e=.returned (.bool (roundS M').2)/\RunAt NoG w' D r (roundS M').1/\Below D W w'):=(show mchk M=0 -> ∀(D r:Nat) (M':SMach) (W:World),_ from fun h0 D r M' W hR hI' hD hW=>roundE_is M.ns M.fs I (hI h0) hfit.nodes D r M' W hR hI' (fun V hV=>hE V (hW.trans (hV.mono hD))))
 have HTO:Hid (mchk M=0 -> ∀M',I M'->I (roundS M').1):=(show mchk M=0 -> ∀M',_ from fun h0 M' hM'=>(hI h0).to hM' _)
 have HI0:Hid (mchk M=0->I M/\Fins k0 M res):=(show mchk M=0->_ from fun h0=>⟨hM h0,hfin h0⟩)
 unfold machV at HCK HST ⊢
 obtain⟨RES,hRES⟩:∃z,z=finR M res:=⟨_,rfl⟩
 rw[<- hRES]
 unfold finR at hRES
 generalize M.ns.length=NN at *
 generalize M.fs.length=NF at *
 generalize M.pipes.length=NX at *
 generalize M.ps.length=NP at *
 generalize M.sunk.length=NS at *
 clear h hfit hE hI hM hfin
 by_cases h0:mchk M=0
 .
  have HST2:Hid _:=HST.out h0
  have HRD2:Hid _:=HRD.out h0
  have HTO2:Hid _:=HTO.out h0
  have HI2:Hid _:=HI0.out h0
  rw[if_neg (by simpa using h0)] at hRES
  subst hRES
  rw[h0] at HCK
  clear HST HRD HTO HI0 h0
  go_enter Tryz.func25,Tryz.ntmps25
  go_wp2_with fail
  obtain⟨W0,hW0⟩:∃W,W=(w.alloc (.cells #[.slice an NN cn,.slice af NF cf,.slice ax NX cx,.slice ap NP cp,.slice aS NS cs] 30)).alloc (.cells #[.slice none 0 0,.slice none 0 0,.slice none 0 0,.slice none 0 0,.slice none 0 0] 30):=⟨_,rfl⟩
  rw[<- hW0]
  have hB0:Below w.heap.size w W0:=by rw[hW0];exact ((Below.refl _ w).alloc (Nat.le_refl _) _).alloc (by simp) _
  have hX0:BX W0 w.heap.size (.slice an NN cn) (.slice af NF cf) (.slice ax NX cx) (.slice ap NP cp) (.slice aS NS cs):=by
   rw[hW0]
   exact⟨heap_alloc2_old _ _ _,heap_alloc2_new _ _ _⟩
  refine Calls.mono (HCK.out W0 hB0) ?_
  rintro e w1 ⟨rfl,hb1⟩
  have hB1:Below w.heap.size w w1:=hB0.trans (hb1.mono hB0.size)
  have hX1:=BX.below hX0 hb1
  obtain⟨x0,x1,x2,x3,x4,_⟩:=cells5C hX1.1
  have HB1:Hid (Below w.heap.size w w1):=hB1
  have HX1:Hid (BX w1 w.heap.size (.slice an NN cn) (.slice af NF cf) (.slice ax NX cx) (.slice ap NP cp) (.slice aS NS cs)):=hX1
  clear hW0 hB0 hX0 hb1 hB1 hX1 HCK
  go_wp2_with fail
  refine Calls.mono (HST2.out w1 HB1.out) ?_
  rintro e w2 ⟨D,r,rfl,hR2,hD,hb2⟩
  have HB2:Hid (Below w.heap.size w w2):=HB1.out.trans (hb2.mono HB1.out.size)
  have HX2:Hid (BX w2 w.heap.size (.slice an NN cn) (.slice af NF cf) (.slice ax NX cx) (.slice ap NP cp) (.slice aS NS cs)):=BX.below HX1.out hb2
  have HDX:Hid (w.heap.size+2<=D):=(show _<=_ by have:=BX.lt HX1.out;omega)
  obtain⟨f,hf⟩:=least_ex (fun k wr=>∃M',RunAt NoG wr D r M'/\I M'/\Fins k M' RES)
  have HF:Hid (∀wr k,(∃M',RunAt NoG wr D r M'/\I M'/\Fins k M' RES)->(∃M',RunAt NoG wr D r M'/\I M'/\Fins (f wr) M' RES)/\f wr<=k):=hf
  have HP2:Hid (∃k,∃M',RunAt NoG w2 D r M'/\I M'/\Fins k M' RES):=(show ∃k,_ from ⟨k0,M,hR2,HI2.out.1,HI2.out.2⟩)
  clear hR2 hD hb2 HST2 x0 x1 x2 x3 x4 HX1 hf HI2
  go_upto_region 5 with fail
  go_loopw [14] (fun _ wr=>Hid (∃k,∃M',RunAt NoG wr D r M'/\I M'/\Fins k M' RES)/\Hid (BX wr w.heap.size (.slice an NN cn) (.slice af NF cf) (.slice ax NX cx) (.slice ap NP cp) (.slice aS NS cs))/\Hid (Below w.heap.size w wr)) (fun _ wr=>f wr)
  case atStart=>exact⟨HP2,HX2,HB2⟩
  case round=>
   obtain⟨hP,hX,hB⟩:=hrel
   clear HP2 HX2 HB2
   obtain⟨k,hk⟩:=hP.out
   obtain⟨⟨M',hR,hI',hFin⟩,_⟩:=HF.out wr k hk
   have HOV:Hid _:=overE_is D r M' wr hR
   have HR:Hid (RunAt NoG wr D r M'):=hR
   have HI':Hid (I M'):=hI'
   have HFIN:Hid (Fins (f wr) M' RES):=hFin
   clear hP hk hR hI' hFin
   go_wp2_with fail
   refine Calls.mono HOV.out ?_
   rintro e w3 ⟨rfl,hb3⟩
   have hR3:=RunAt.below HR.out hb3
   have hX3:=BX.below hX.out hb3
   have hB3:Below w.heap.size w w3:=hB.out.trans (hb3.mono hB.out.size)
   clear HOV hb3
   cases ho:overS M' with
   | true=>
    have hres:RES=(M',0):=by
     have h1:=HFIN.out
     cases hn:f wr with
     | zero=>
      rw[hn] at h1
      rcases h1 with ⟨_,h2⟩ | ⟨h2,_⟩
      . exact h2
      . rw[ho] at h2;cases h2
     | succ n=>
      rw[hn] at h1
      have:=h1.1
      rw[ho] at this
      cases this
    have HRES:Hid (RES=(M',0)):=hres
    obtain⟨hrD,bn,bf,bx,bp,bS,dn,df,dx,dp,ds,vI,vM,hbox,hRM⟩:=RunAt.machX hR3
    have HRM:Hid (∀(w':World),w'.heap.size=w3.heap.size->(∀k,k≠w.heap.size+1->w'.heap[k]? = w3.heap[k]?)->NewRM w.heap.size w' bn bf bx bp bS dn df dx dp ds M'):=(show ∀(w':World),_ from fun w' h1 h2=>machNew_of hRM (by have:=HDX.out;omega) (only_of hX3) (by omega) h1 h2)
    obtain⟨c0,c1,c2,c3,c4,_,_⟩:=cells7 hbox
    have hrw:r≠w.heap.size+1:=by have:=HDX.out;omega
    have hrw':w.heap.size+1≠r:=by omega
    have HB3:Hid (Below w.heap.size w w3):=hB3
    obtain⟨y0,y1,y2,y3,y4,yf⟩:=cells5C hX3.2
    have yf0:=yf 0
    have yf1:=yf 1
    have yf2:=yf 2
    have yf3:=yf 3
    have yf4:=yf 4
    generalize hn5:M'.ns.length=N5 at *
    generalize hf5:M'.fs.length=F5 at *
    generalize hx5:M'.pipes.length=X5 at *
    generalize hp5:M'.ps.length=P5 at *
    generalize hs5:M'.sunk.length=S5 at *
    clear hres hR3 hX3 hB3 hbox hRM yf ho HF
    go_wp2_with fail
    (try simp only[Exit.inBlock,Exit.then])
    refine bodyPost_ret (v:=.tuple #[.agg #[.slice bn N5 dn,.slice bf F5 df,.slice bx X5 dx,.slice bp P5 dp,.slice bS S5 ds],.int .i64 0]) ?_ rfl ?_
    . rw[results_cell_tmp rfl]
      go_simp
    . rw[HRES.out]
      refine⟨.agg #[.slice bn N5 dn,.slice bf F5 df,.slice bx X5 dx,.slice bp P5 dp,.slice bS S5 ds],rfl,?_,?_⟩
      . exact⟨bn,bf,bx,bp,bS,dn,df,dx,dp,ds,by unfold machV;rw[hn5,hf5,hx5,hp5,hs5],HRM.out _ (by simp) (fun k hk=>by
         rw[Below.heap_setCell _ _ _ _ hk,Below.heap_setCell _ _ _ _ hk,Below.heap_setCell _ _ _ _ hk,Below.heap_setCell _ _ _ _ hk,Below.heap_setCell _ _ _ _ hk])⟩
      . repeat (first | refine Below.setCell ?_ (by simp) _ | exact HB3.out)
   | false=>
    have HRDx:Hid _:=HRD2.out D r M' w3 hR3 HI'.out (by have:=HDX.out;omega) hB3
    have HX3:Hid (BX w3 w.heap.size (.slice an NN cn) (.slice af NF cf) (.slice ax NX cx) (.slice ap NP cp) (.slice aS NS cs)):=hX3
    have HB3:Hid (Below w.heap.size w w3):=hB3
    have HO:Hid (overS M'=false):=ho
    clear hR3 hX3 hB3 ho
    go_wp2_with fail
    refine Calls.mono HRDx.out ?_
    rintro e w4 ⟨rfl,hR4,hb4⟩
    have hX4:BX w4 w.heap.size (.slice an NN cn) (.slice af NF cf) (.slice ax NX cx) (.slice ap NP cp) (.slice aS NS cs):=BX.keep HX3.out (fun k hk=>hb4.block k (by have:=HDX.out;omega))
    have HB4:Hid (Below w.heap.size w w4):=HB3.out.trans (hb4.mono (by have:=HDX.out;omega))
    clear hb4 HRDx HX3
    cases hw:(roundS M').2 with
    | false=>
     have HRES:Hid (RES=(zeroM,8)):=(show _=_ by
      have h1:=HFIN.out
      cases hn:f wr with
      | zero=>
       rw[hn] at h1
       rcases h1 with ⟨h2,_⟩ | ⟨_,_,h2⟩
       . rw[HO.out] at h2;cases h2
       . exact h2
      | succ n=>
       rw[hn] at h1
       have:=h1.2.1
       rw[hw] at this
       cases this)
     obtain⟨y0,y1,y2,y3,y4,yf⟩:=cells5C hX4.2
     have yf0:=yf 0
     have yf1:=yf 1
     have yf2:=yf 2
     have yf3:=yf 3
     have yf4:=yf 4
     clear hR4 hX4 hw yf HF
     go_wp2_with fail
     (try simp only[Exit.inBlock,Exit.then])
     refine bodyPost_ret (v:=.tuple #[.agg #[.slice none 0 0,.slice none 0 0,.slice none 0 0,.slice none 0 0,.slice none 0 0],.int .i64 8]) ?_ rfl ?_
     . rw[results_cell_tmp rfl]
       go_simp
     . rw[HRES.out]
       exact⟨_,rfl,MachNew.zero _ _,by repeat (first | refine Below.setCell ?_ (by simp) _ | exact HB4.out)⟩
    | true=>
     have hnext:∃n,f wr=n+1/\Fins n (roundS M').1 RES:=by
      have h1:=HFIN.out
      cases hn:f wr with
      | zero=>
       rw[hn] at h1
       rcases h1 with ⟨h2,_⟩ | ⟨_,h2,_⟩
       . rw[HO.out] at h2;cases h2
       . rw[hw] at h2;cases h2
      | succ n=>
       rw[hn] at h1
       exact⟨n,rfl,h1.2.2⟩
     have HP4:Hid (∃k,∃M',RunAt NoG w4 D r M'/\I M'/\Fins k M' RES):=(show ∃k,_ from by
      obtain⟨n,_,h2⟩:=hnext
      exact⟨n,_,hR4,HTO2.out M' HI'.out,h2⟩)
     have HLT:Hid (f w4<f wr):=(show _<_ by
      obtain⟨n,h1,h2⟩:=hnext
      have:=(HF.out w4 n ⟨_,hR4,HTO2.out M' HI'.out,h2⟩).2
      omega)
     have HX4:Hid (BX w4 w.heap.size (.slice an NN cn) (.slice af NF cf) (.slice ax NX cx) (.slice ap NP cp) (.slice aS NS cs)):=hX4
     clear hnext hR4 hX4 hw
     go_wp2_with fail
     go_roundw
     case rel=>exact⟨HP4,HX4,HB4⟩
     case measure=>exact HLT.out
 .
  obtain⟨K,hK⟩:∃z,z=mchk M:=⟨_,rfl⟩
  rw[<- hK] at HCK h0
  rw[if_pos (by rw[<- hK];exact h0)] at hRES
  rw[<- hK] at hRES
  have HRES:Hid (RES=(zeroM,K)):=hRES
  clear HST HRD HTO HI0 hRES hK
  go_enter Tryz.func25,Tryz.ntmps25
  go_wp2_with fail
  obtain⟨W0,hW0⟩:∃W,W=(w.alloc (.cells #[.slice an NN cn,.slice af NF cf,.slice ax NX cx,.slice ap NP cp,.slice aS NS cs] 30)).alloc (.cells #[.slice none 0 0,.slice none 0 0,.slice none 0 0,.slice none 0 0,.slice none 0 0] 30):=⟨_,rfl⟩
  rw[<- hW0]
  have hB0:Below w.heap.size w W0:=by rw[hW0];exact ((Below.refl _ w).alloc (Nat.le_refl _) _).alloc (by simp) _
  have hX0:BX W0 w.heap.size (.slice an NN cn) (.slice af NF cf) (.slice ax NX cx) (.slice ap NP cp) (.slice aS NS cs):=by
   rw[hW0]
   exact⟨heap_alloc2_old _ _ _,heap_alloc2_new _ _ _⟩
  refine Calls.mono (HCK.out W0 hB0) ?_
  rintro e w1 ⟨rfl,hb1⟩
  have HB1:Hid (Below w.heap.size w w1):=hB0.trans (hb1.mono hB0.size)
  have hX1:=BX.below hX0 hb1
  obtain⟨y0,y1,y2,y3,y4,yf⟩:=cells5C hX1.2
  have yf0:=yf 0
  have yf1:=yf 1
  have yf2:=yf 2
  have yf3:=yf 3
  have yf4:=yf 4
  clear hW0 hB0 hX0 hb1 hX1 HCK yf
  go_wp2_with fail
  (try simp only[Exit.inBlock,Exit.then])
  refine bodyPost_ret (v:=.tuple #[.agg #[.slice none 0 0,.slice none 0 0,.slice none 0 0,.slice none 0 0,.slice none 0 0],.int .i64 K]) ?_ rfl ?_
  . rw[results_cell_tmp rfl]
    go_simp
  . rw[HRES.out]
    exact⟨_,rfl,MachNew.zero _ _,by repeat (first | refine Below.setCell ?_ (by simp) _ | exact HB1.out)⟩
theorem FinishE_is (an af ax ap aS:Option Addr) (cn cf cx cp cs:Nat) (M:SMach) (w:World) (h:RMach w an af ax ap aS cn cf cx cp cs M) (hfit:FitsM M) (hE:∀W,Below w.heap.size w W->KnownE W)
 (I:SMach->Prop) (hI:mchk M=0->InvM M.ns M.fs I) (hM:mchk M=0->I M) (k0:Nat) (res:SMach × Int) (hfin:mchk M=0->Fins k0 M res) :
 Calls Tryz.prog 25 #[machV an af ax ap aS M cn cf cx cp cs] w fun e w'=>∃v,e=.returned (.tuple #[v,.int .i64 (finR M res).2])/\MachAns w' v (finR M res).1/\Below w.heap.size w w':=by
 refine (FinishN_is an af ax ap aS cn cf cx cp cs M w h hfit hE I hI hM k0 res hfin).mono ?_
 rintro e w' ⟨v,h1,h2,h3⟩
 exact⟨v,h1,h2.ans,h3⟩
end Go.Proofs.YtllgglolcgdehaaGreatDoor
namespace Go.Gs
open Go.RowKit
set_option linter.unusedVariables false
theorem insChk_ok (ns:List SNode):∀(ins t:List (Int × Int)),(∀p∈ins,portOk ns p=true)->(t++ins).Nodup->insChk ns ins t=(0,t++ins)
 | [],t,_,_=>by simp[insChk]
 | p::r,t,h,hn=>by
  have h1:portOk ns p=true:=h p (by simp)
  have h2:p∉t:=fun hp=>by
   have:=(List.nodup_append.1 hn).2.2 p hp p (by simp)
   exact this rfl
  rw[insChk,if_neg (by simp[h1]),if_neg h2,insChk_ok ns r (t++[p]) (fun q hq=>h q (by simp[hq])) (by simpa using hn)]
  simp
def PSt (fs:List SFile) (ns:List SNode) (t A:List (Int × Int)) (vals:List (List UInt8)):Prop:=
 (∀rest,rest≠[]->gchkL [] (ns++rest) []=gchkL ns rest t)/\(t++A).Nodup/\(∀p∈t++A,portOk ns p=true)/\((t.length+A.length:Nat):Int)=allOuts ns/\A.map (portAt (outsL fs [] ns))=vals
theorem newPorts_mem {i k:Nat} {p:Int × Int} (h:p∈newPorts i k):∃j:Nat,j<k/\p=((i:Int),(j:Int)):=by
 unfold newPorts at h
 obtain⟨j,hj,rfl⟩:=List.mem_map.1 h
 exact⟨j,List.mem_range.1 hj,rfl⟩
theorem newPorts_nodup (i k:Nat):(newPorts i k).Nodup:=by
 unfold newPorts
 rw[List.nodup_iff_pairwise_ne,List.pairwise_map]
 refine List.Pairwise.imp ?_ (List.nodup_iff_pairwise_ne.1 List.nodup_range)
 intro a b hab e
 injection e with _ e2
 exact hab (by omega)
theorem port_old {fs:List SFile} {ns:List SNode} {n:SNode} {p:Int × Int} (h:portOk ns p=true):portAt (outsL fs [] (ns++[n])) p=portAt (outsL fs [] ns) p:=by
 obtain⟨i,k,m,rfl,hi,hk⟩:=port_nat h
 have hl:i<ns.length:=(gSm hi).1
 rw[outsL_append]
 unfold portAt
 rw[outsL_keep fs [n] (outsL fs [] ns) _ (by rw[outsL_len];simp;exact hl)]
theorem port_new {fs:List SFile} {ns:List SNode} {n:SNode} (j:Nat):portAt (outsL fs [] (ns++[n])) ((ns.length:Int),(j:Int))=(nodeMade n fs (n.ins.map (portAt (outsL fs [] ns))))[j]?.getD []:=by
 rw[outsL_append]
 unfold portAt
 have e:(outsL fs (outsL fs [] ns) [n])[ns.length]? = some (nodeMade n fs (n.ins.map (portAt (outsL fs [] ns)))):=by
  rw[outsL,outsL,List.getElem?_append_right (by rw[outsL_len];simp),outsL_len]
  simp
 simp only[Int.toNat_natCast]
 rw[e]
 rfl
theorem PSt.step {fs:List SFile} {ns:List SNode} {t ins R:List (Int × Int)} {iv rv:List (List UInt8)} (h:PSt fs ns t (ins++R) (iv++rv)) (hl:ins.length=iv.length) {n:SNode} (hn:nodeChk n=0) (hk:n.kind≠5) (hi:n.ins=ins) :
 PSt fs (ns++[n]) (t++ins) (R++newPorts ns.length (nouts n).toNat) (rv++nodeMade n fs iv):=by
 obtain⟨h1,h2,h3,h4,h5⟩:=h
 have hnn:=nouts_nonneg hn
 have hsub:(t++ins).Nodup:=by
  rw[<- List.append_assoc] at h2
  exact (List.nodup_append.1 h2).1
 rw[List.map_append] at h5
 obtain⟨v1,v2⟩:=List.append_inj h5 (by simpa using hl)
 have hcnt:=nodeMade_count hn fs iv
 refine⟨?_,?_,?_,?_,?_⟩
 .
  intro rest hr
  rw[List.append_assoc,h1 ([n]++rest) (by simp)]
  rw[List.singleton_append,gchkL,if_neg (by simp[hn]),hi,insChk_ok ns ins t (fun p hp=>h3 p (by simp[hp])) hsub,if_neg (by simp)]
  have hre:rest.isEmpty=false:=by cases rest with | nil=>exact absurd rfl hr | cons _ _=>rfl
  rw[if_neg (by simp[hre,hk])]
 .
  have hold:∀p∈t++(ins++R),p∉newPorts ns.length (nouts n).toNat:=by
   intro p hp hq
   obtain⟨j,hj,rfl⟩:=newPorts_mem hq
   obtain⟨i,k,m,e,hi',_⟩:=port_nat (h3 _ hp)
   injection e with e1 _
   have:=(gSm hi').1
   omega
  rw[show t++ins++(R++newPorts ns.length (nouts n).toNat)=(t++(ins++R))++newPorts ns.length (nouts n).toNat by simp]
  rw[List.nodup_append]
  exact⟨h2,newPorts_nodup _ _,fun a ha b hb e=>hold a ha (e ▸ hb)⟩
 .
  intro p hp
  have hp':p∈t++(ins++R)\/p∈newPorts ns.length (nouts n).toNat:=by
   simp only[List.mem_append] at hp ⊢
   rcases hp with (a | a) | (a | a)
   . exact Or.inl (Or.inl a)
   . exact Or.inl (Or.inr (Or.inl a))
   . exact Or.inl (Or.inr (Or.inr a))
   . exact Or.inr a
  rcases hp' with hp' | hp'
  . exact portOk_more (h3 p hp')
  .
   obtain⟨j,hj,rfl⟩:=newPorts_mem hp'
   unfold portOk
   simp
   constructor
   . omega
   . omega
 . have ea:allOuts (ns++[n])=allOuts ns+nouts n:=by simp[allOuts]
   rw[ea,<- h4]
   simp only[List.length_append,newPorts_len]
   omega
 .
  rw[List.map_append]
  congr 1
  . rw[<- v2]
    refine List.map_congr_left ?_
    intro p hp
    exact port_old (h3 p (by simp[hp]))
  .
   unfold newPorts
   rw[List.map_map]
   apply List.ext_getElem?
   intro j
   rw[List.getElem?_map]
   by_cases hj:j<(nouts n).toNat
   . have hjl:j<(nodeMade n fs iv).length:=by omega
     rw[List.getElem?_range hj]
     simp only[Option.map_some,Function.comp]
     rw[port_new,hi,v1,gEl hjl]
     rfl
   . rw[List.getElem?_eq_none (by simpa using hj),List.getElem?_eq_none (by omega)]
     rfl
theorem srcN_right {f:List UInt8} (h:isWord f=true):nodeChk (srcN f)=0:=by
 simp[nodeChk,nodeUsed,srcN,h,mayHave,hasUnused,zeroC,noC]
theorem sinkN_right {f:List UInt8} (h:isWord f=true) {p:Int × Int}:nodeChk (sinkN f [p])=0:=by
 simp[nodeChk,nodeUsed,sinkN,h,mayHave,hasUnused,zeroC,noC]
theorem splitN_right {w:Nat} (h:1<=w/\w<=5) {p:Int × Int}:nodeChk (splitN w [p])=0:=by
 have h1:¬((w:Int)<1\/5<(w:Int)):=by omega
 simp[nodeChk,nodeUsed,splitN,h1,mayHave,hasUnused,zeroC,noC]
theorem workN_right {c:Cmd} (h:chk c=0) {p:Int × Int}:nodeChk (workN c p)=0:=by
 simp[nodeChk,nodeUsed,workN,h,mayHave,hasUnused]
theorem joinN_right {how:Int} {c:Cmd} (h:jchk how c=0) {ps:List (Int × Int)} (hp:1<=ps.length/\ps.length<=5):nodeChk (joinN how c ps)=0:=by
 simp[nodeChk,nodeUsed,joinN,h,mayHave,hasUnused,hp]
def PV (fs:List SFile) (d:PD) (t:List (Int × Int)) (pss:List (List (List UInt8))):Prop:=
 PSt fs d.1 t d.2 (pss.map ended)/\(∀p∈pss,∀s∈p,(10:UInt8)∉s)/\d.2.length=pss.length
theorem lines_of_parts {pss:List (List (List UInt8))} (h:∀p∈pss,∀s∈p,(10:UInt8)∉s):(pss.map ended).map lines=pss:=by
 rw[List.map_map]
 conv=>rhs;rw[<- List.map_id pss]
 exact List.map_congr_left (fun p hp=>lines_ended p (h p hp))
theorem PV.src {fs:List SFile}:∀(fr:List (List UInt8)) (d:PD) (t:List (Int × Int)) (pss:List (List (List UInt8))),PV fs d t pss->(∀f∈fr,isWord f=true)->PV fs (fr.foldl pSrc d) t (pss++fr.map (fun f=>lines (fileOf fs f)))
 | [],d,t,pss,h,_=>by simpa using h
 | f::r,d,t,pss,h,hw=>by
  have h1:PV fs (pSrc d f) t (pss++[lines (fileOf fs f)]):=by
   obtain⟨a,b,c⟩:=h
   have st:=PSt.step (ins:=[]) (iv:=[]) (R:=d.2) (rv:=pss.map ended) (by simpa using a) rfl (srcN_right (hw f (by simp))) (by simp[srcN]) rfl
   refine⟨?_,?_,?_⟩
   . have e1:newPorts d.1.length (nouts (srcN f)).toNat=[onePort d.1.length]:=newPorts_one _
     rw[e1] at st
     simpa[pSrc,nodeMade,srcN] using st
   . intro p hp
     rcases List.mem_append.1 hp with hp | hp
     . exact b p hp
     . rw[List.mem_singleton.1 hp];exact lines_noFeed _
   . simp[pSrc,c]
  have:=PV.src r _ t _ h1 (fun x hx=>hw x (by simp[hx]))
  simpa using this
theorem PV.join {fs:List SFile} {d:PD} {t:List (Int × Int)} {pss:List (List (List UInt8))} (h:PV fs d t pss) {how:Int} {c:Cmd} (hj:jchk how c=0) (hl:1<=d.2.length/\d.2.length<=5) :
 PV fs (pJoinAll how c d) (t++d.2) [joined how c pss]:=by
 obtain⟨a,b,e⟩:=h
 have st:=PSt.step (ins:=d.2) (iv:=pss.map ended) (R:=[]) (rv:=[]) (by simpa using a) (by simpa using e) (joinN_right hj hl) (by simp[joinN]) rfl
 have e1:newPorts d.1.length (nouts (joinN how c d.2)).toNat=[onePort d.1.length]:=newPorts_one _
 have e2:nodeMade (joinN how c d.2) fs (pss.map ended)=[ended (joined how c pss)]:=by
  have:=lines_of_parts b
  simp[nodeMade,joinN]
  rw[List.map_map] at this
  rw[this]
 rw[e1,e2] at st
 refine⟨by simpa[pJoinAll] using st,?_,rfl⟩
 intro p hp
 rw[List.mem_singleton.1 hp]
 refine joined_noFeed how c ?_ pss b
 intro h4
 unfold jchk at hj
 rw[if_neg (by omega),if_pos h4] at hj
 exact hj
theorem PV.works {fs:List SFile} {c:Cmd} (hc:chk c=0):∀(op:List (Int × Int)) (iv:List (List (List UInt8))) (ns:List SNode) (D t:List (Int × Int)) (dv:List (List (List UInt8))),op.length=iv.length->PSt fs ns t (op++D) ((iv++dv).map ended)->(∀p∈iv,∀s∈p,(10:UInt8)∉s) ->
 PSt fs (op.foldl (pWork c) (ns,D)).1 (t++op) (op.foldl (pWork c) (ns,D)).2 ((dv++iv.map (made c)).map ended)
 | [],iv,ns,D,t,dv,hl,h,hf=>by
  have:iv=[]:=List.length_eq_zero_iff.1 hl.symm
  subst this
  simpa using h
 | p::r,iv,ns,D,t,dv,hl,h,hf=>by
  cases iv with
  | nil=>simp at hl
  | cons x iv=>
   have st:=PSt.step (ins:=[p]) (iv:=[ended x]) (R:=r++D) (rv:=(iv++dv).map ended) (by simpa using h) rfl (n:=workN c p) (workN_right hc) (by simp[workN]) rfl
   have e1:newPorts ns.length (nouts (workN c p)).toNat=[onePort ns.length]:=newPorts_one _
   have e2:nodeMade (workN c p) fs [ended x]=[ended (made c x)]:=by simp[nodeMade,workN,lines_ended x (hf x (by simp))]
   rw[e1,e2] at st
   have ih:=PV.works hc r iv (ns++[workN c p]) (D++[onePort ns.length]) (t++[p]) (dv++[made c x]) (by simpa using hl) (by simpa using st) (fun q hq=>hf q (by simp[hq]))
   simpa[pWork] using ih
theorem made_flat {c:Cmd} (h:isEach c.kind=true):∀pss:List (List (List UInt8)),(pss.map (made c)).flatten=made c pss.flatten
 | []=>by
  have:=made_append c h [] []
  simp at this
  simp[this]
 | p::r=>by
  rw[List.map_cons,List.flatten_cons,made_flat h r,List.flatten_cons,made_append c h]
theorem made_count {c:Cmd} (h:chk c=0) (ls:List (List UInt8)) (hl:ls.length<=4000):(made c ls).length<=4000:=by
 have:(made c ls).length<=max ls.length 1:=by
  unfold made
  repeat' split
  all_goals (try simp)
  all_goals (first
   | exact Nat.le_trans (List.length_filter_le _ _) (by omega)
   | exact Nat.le_trans (compact_sub _).length_le (by omega)
   | (rw[sortOf_len];omega)
   | omega)
 omega
theorem joined_same {how:Int} (c c':Cmd) (h:how≠4) (ps:List (List (List UInt8))):joined how c ps=joined how c' ps:=by
 unfold joined
 rw[if_neg h,if_neg h]
theorem PV.split {fs:List SFile} {d:PD} {t:List (Int × Int)} {L:List (List UInt8)} (h:PV fs d t [L]) {w:Nat} (hw:1<=w/\w<=5) :
 ∃pss,PV fs (d.1++[splitN w d.2],newPorts d.1.length w) (t++d.2) pss/\pss.flatten=L/\pss.length=w:=by
 obtain⟨a,b,e⟩:=h
 obtain⟨p,hp⟩:∃p,d.2=[p]:=List.length_eq_one_iff.1 (by simpa using e)
 have hL:=b L (by simp)
 have st:=PSt.step (ins:=[p]) (iv:=[ended L]) (R:=[]) (rv:=[]) (by rw[hp] at a;simpa using a) rfl (n:=splitN w [p]) (splitN_right hw) (by simp[splitN]) rfl
 have e1:nouts (splitN w [p])=(w:Int):=by simp[nouts,splitN]
 have e2:nodeMade (splitN w [p]) fs [ended L]=((List.range w).map (fun k=>(L.take ((k+1)*L.length / w)).drop (k*L.length / w))).map ended:=by
  simp[nodeMade,splitN,partOf,lines_ended L hL]
 rw[e1,e2,Int.toNat_natCast] at st
 have hnf:∀q∈(List.range w).map (fun k=>(L.take ((k+1)*L.length / w)).drop (k*L.length / w)),∀s∈q,(10:UInt8)∉s:=by
  intro q hq s hs
  obtain⟨k,_,rfl⟩:=List.mem_map.1 hq
  exact hL s (List.mem_of_mem_take (List.mem_of_mem_drop hs))
 refine⟨_,⟨by rw[hp];simpa using st,hnf,by simp[newPorts_len]⟩,?_,by simp⟩
 have hw2:=parts_whole (ended L) w hw.1
 rw[lines_ended L hL] at hw2
 have e3:ended (((List.range w).map (fun k=>(L.take ((k+1)*L.length / w)).drop (k*L.length / w))).flatten)=ended L:=by
  rw[<- hw2]
  unfold partOf
  rw[lines_ended L hL]
  generalize List.range w=rs
  induction rs with
  | nil=>rfl
  | cons k r ih=>simp[ended_append,ih]
 have:=congrArg lines e3
 rw[lines_ended L hL,lines_ended] at this
 . exact this
 . intro s hs
   obtain⟨q,hq,hsq⟩:=List.mem_flatten.1 hs
   exact hnf q hq s hsq
def PBw (fs:List SFile) (w:Nat) (d:PD) (L:List (List UInt8)):Prop:=∃t pss,PV fs d t pss/\pss.flatten=L/\(d.2.length=1\/d.2.length=w)/\L.length<=4000
theorem flat_part {pss:List (List (List UInt8))} {p:List (List UInt8)} (h:p∈pss):p.length<=pss.flatten.length:=by
 obtain⟨a,b,rfl⟩:=List.append_of_mem h
 simp
 omega
theorem PBw.cmd {fs:List SFile} {w:Nat} (hw:1<=w/\w<=5) {d:PD} {L:List (List UInt8)} (h:PBw fs w d L) {c:Cmd} (hc:chk c=0):PBw fs w (pCmd w d c) (made c L):=by
 obtain⟨t,pss,hv,hL,hd,h4⟩:=h
 have hsp:∃t' pss',PV fs (pSplit w d) t' pss'/\pss'.flatten=L/\pss'.length=w:=by
  unfold pSplit
  split
  .
   rename_i h1
   have hp1:pss.length=1:=by rw[<- hv.2.2];exact h1.1
   obtain⟨x,rfl⟩:=List.length_eq_one_iff.1 hp1
   obtain rfl:x=L:=by simpa using hL
   obtain⟨q,a,b,e⟩:=hv.split hw
   exact⟨_,q,a,b,e⟩
  .
   rename_i h1
   refine⟨t,pss,hv,hL,?_⟩
   rw[<- hv.2.2]
   rcases hd with h | h
   . have:w=1:=by by_cases e:w=1;exact e;exact absurd ⟨h,e⟩ h1
     omega
   . exact h
 obtain⟨t',ps,hv',hL',hlen⟩:=hsp
 unfold pCmd
 generalize pSplit w d=d1 at hv' ⊢
 obtain⟨a,b,e⟩:=hv'
 have hwk:=PV.works hc d1.2 ps d1.1 [] t' [] e (by simpa using a) b
 have hlw:=works_len c d1.2 (d1.1,[])
 simp only[List.length_nil,Nat.zero_add,List.nil_append] at hwk hlw
 have hv2:PV fs (pWorks c d1) (t'++d1.2) (ps.map (made c)):=by
  refine⟨hwk,?_,by unfold pWorks;rw[hlw.2,e];simp⟩
  intro p hp
  obtain⟨x,hx,rfl⟩:=List.mem_map.1 hp
  exact made_noFeed c hc x (b x hx)
 have hlen2:(pWorks c d1).2.length=w:=by rw[hv2.2.2];simpa using hlen
 have hm4:=made_count hc L h4
 unfold pJoin
 split
 .
  rename_i h1
  refine⟨_,_,hv2,?_,Or.inr hlen2,hm4⟩
  rcases h1 with h1 | h1
  . rw[h1] at hlen
    obtain⟨x,rfl⟩:=List.length_eq_one_iff.1 hlen
    obtain rfl:x=L:=by simpa using hL'
    simp
  . rw[made_flat h1,hL']
 .
  rename_i h1
  have hcw:∀p∈ps,p.length<=4000:=fun p hp=>by
   have:=flat_part hp
   rw[hL'] at this
   omega
  have hjw:=join_whole c hc ps hcw
  rw[hL'] at hjw
  have hhow:1<=howFor c.kind/\howFor c.kind<=4:=by unfold howFor;repeat' split;all_goals omega
  have hjc:jchk (howFor c.kind) (if howFor c.kind=4 then c else noC)=0:=by
   unfold jchk
   rw[if_neg (by omega)]
   by_cases h4':howFor c.kind=4
   . rw[if_pos h4',if_pos h4'];exact hc
   . rw[if_neg h4',if_neg h4'];simp[noC]
  have hj:=hv2.join hjc (by omega)
  refine⟨_,_,hj,?_,Or.inl rfl,hm4⟩
  rw[List.flatten_cons,List.flatten_nil,List.append_nil,<- hjw]
  by_cases h4':howFor c.kind=4
  . rw[if_pos h4']
  . rw[if_neg h4'];exact joined_same _ _ h4' _
theorem PBw.cmds {fs:List SFile} {w:Nat} (hw:1<=w/\w<=5):∀(cs:List Cmd) (d:PD) (L:List (List UInt8)),PBw fs w d L->(∀c∈cs,chk c=0)->PBw fs w (cs.foldl (pCmd w) d) (cs.foldl (fun L c=>made c L) L)
 | [],d,L,h,_=>h
 | c::r,d,L,h,hc=>PBw.cmds hw r _ _ (h.cmd hw (hc c (by simp))) (fun x hx=>hc x (by simp[hx]))
theorem PV.behind {fs:List SFile} {d:PD} {t:List (Int × Int)} {pss:List (List (List UInt8))} (h:PV fs d t pss) (hl:1<=d.2.length/\d.2.length<=5):∃t',PV fs (pBehind d) t' [pss.flatten]:=by
 unfold pBehind
 split
 . have hj:=h.join (how:=1) (c:=noC) (by simp[jchk,noC]) hl
   exact⟨_,by simpa[joined] using hj⟩
 .
  rename_i h1
  refine⟨t,?_⟩
  have:pss.length=1:=by rw[<- h.2.2];omega
  obtain⟨x,rfl⟩:=List.length_eq_one_iff.1 this
  simpa using h
theorem lchk_all {l:SLine} (h:lchk l=0):(1<=l.fr.length/\l.fr.length<=4/\l.cs.length<=6)/\(∀f∈l.fr,isWord f=true)/\isWord l.tu=true /\ ∀c∈l.cs,chk c=0:=by
 obtain⟨a,b,c,d,e,f⟩:=lchk_zero h
 exact⟨⟨a,b,c⟩,List.all_eq_true.1 d,e,f⟩
theorem plan_pv {fs:List SFile} {l:SLine} {w:Nat} (hw:1<=w/\w<=5) (h:lchk l=0) (hg:(allLines fs l.fr).length<=4000):∃t,PV fs (pBehind (pDone w l.fr l.cs)) t [l.cs.foldl (fun L c=>made c L) (allLines fs l.fr)]:=by
 obtain⟨h1,h2,h3,h4⟩:=lchk_all h
 have s0:PV fs ([],[]) [] []:=⟨⟨fun rest _=>rfl,by simp,by simp,by simp[allOuts],rfl⟩,by simp,rfl⟩
 have s1:=PV.src l.fr ([],[]) [] [] s0 h2
 rw[List.nil_append] at s1
 have s1':PV fs (pStart l.fr) [] (l.fr.map (fun f=>lines (fileOf fs f))):=s1
 have hl:=pStart_len l.fr ([],[])
 simp only[List.length_nil,Nat.zero_add] at hl
 obtain⟨t2,s2⟩:=s1'.behind (by unfold pStart;omega)
 have s3:PBw fs w (pFrom l.fr) (allLines fs l.fr):=⟨t2,_,s2,by simp[allLines],Or.inl s2.2.2,hg⟩
 obtain⟨t4,pss,s4,hf,hd,_⟩:=s3.cmds hw l.cs _ _ h4
 obtain⟨t5,s5⟩:=s4.behind (by omega)
 rw[hf] at s5
 exact⟨t5,s5⟩
theorem sink_right {fs:List SFile} {d:PD} {t:List (Int × Int)} {L:List (List UInt8)} (h:PV fs d t [L]) {tu:List UInt8} (ht:isWord tu=true) (h60:(pSink tu d).length<=60):gchk (pSink tu d)=0/\sunk (pSink tu d) fs=ended L:=by
 obtain⟨⟨a1,a2,a3,a4,a5⟩,b,e⟩:=h
 obtain⟨p,hp⟩:∃p,d.2=[p]:=List.length_eq_one_iff.1 (by simpa using e)
 rw[hp] at a2 a3 a4 a5
 have hgl:gchkL [] (d.1++[sinkN tu [p]]) []=(0,t++[p]):=by
  rw[a1 _ (by simp),gchkL,if_neg (by simp[sinkN_right ht]),show (sinkN tu [p]).ins=[p] from rfl,insChk_ok d.1 [p] t (fun q hq=>a3 q (by simp at hq;simp[hq])) a2,if_neg (by simp),if_neg (by simp[sinkN]),gchkL]
 constructor
 .
  unfold pSink at h60 ⊢
  rw[hp] at h60 ⊢
  unfold gchk
  rw[if_neg (by omega),hgl,if_neg (by simp),if_neg]
  have ea:allOuts (d.1++[sinkN tu [p]])=allOuts d.1+0:=by simp[allOuts,nouts,sinkN]
  rw[ea,<- a4]
  simp
 .
  unfold pSink
  rw[hp]
  have hs:sunk (d.1++[sinkN tu [p]]) fs=portAt (outsL fs [] (d.1++[sinkN tu [p]])) p:=by
   unfold sunk
   rw[List.getLast?_append]
   rfl
  rw[hs,port_old (a3 p (by simp))]
  simpa using a5
theorem plan_right {l:SLine} {w:Nat} (hw:1<=w/\w<=5) (h:lchk l=0):gchk (plan l w)=0:=by
 have e0:∀fr:List (List UInt8),allLines [] fr=[]:=by
  intro fr
  induction fr with
  | nil=>rfl
  | cons f r ih=>rw[show allLines [] (f::r)=lines (fileOf [] f)++allLines [] r from rfl,ih];rfl
 obtain⟨t,hv⟩:=plan_pv (fs:=[]) hw h (by rw[e0];simp)
 exact (sink_right hv (lchk_all h).2.2.1 (by have:=(plan_len hw h).1;unfold plan at this;omega)).1
def capB (ns:List SNode) (k:Nat):Nat:=4001*cnt 1 (ns.take k)+20*k
theorem capB_succ {ns:List SNode} {k:Nat} {n:SNode} (h:ns[k]? = some n):capB ns (k+1)=capB ns k+(if n.kind=1 then 4001 else 0)+20:=by
 unfold capB
 rw[take_node h,cnt_append,cnt_one]
 split <;> omega
theorem capB_le {ns:List SNode} (h60:ns.length<=60) (k:Nat) (hk:k<=ns.length):capB ns k<=250000:=by
 have:=cnt_le 1 (ns.take k)
 rw[List.length_take] at this
 unfold capB
 omega
theorem capB_mono {ns:List SNode} {k:Nat} (hk:k<=ns.length):capB ns k<=capB ns ns.length:=by
 unfold capB
 have h1:ns.take ns.length=ns.take k++ns.drop k:=by rw[List.take_length,List.take_append_drop]
 rw[h1,cnt_append]
 omega
theorem nodeMade_lenB {n:SNode} (h:nodeChk n=0) (fs:List SFile) (hf:∀f∈fs,f.b.length<=4000) (ins:List (List UInt8)) (hi:ins.length=n.ins.length) (hl:ins.flatten.length<=900000) :
 (nodeMade n fs ins).flatten.length<=ins.flatten.length+(if n.kind=1 then 4001 else 0)+20:=by
 obtain⟨h1,h2,_⟩:=node_kinds h
 unfold nodeMade
 rcases used_kinds h1 with ⟨h3 | h3,_⟩ | ⟨h3,h4,h5⟩ | ⟨h3,h4⟩ | ⟨h3,h4⟩
 .
  rw[if_pos h3]
  have e1:=ended_lines (fileOf fs n.file)
  have e2:(fileOf fs n.file).length<=4000:=by
   unfold fileOf
   cases hq:fs.find? (fun f=>f.name == n.file) with
   | none=>simp
   | some f=>exact hf f (List.mem_of_find?_eq_some hq)
  rw[flat_one]
  try rw[if_pos h3]
  omega
 . rw[if_neg (by omega),if_neg (by omega),if_neg (by omega),if_neg (by omega)]
   simp
 .
  rw[if_neg (by omega),if_pos h3,parts_whole _ _ (by omega)]
  have e1:=ended_lines (ins.head?.getD [])
  have e2:(ins.head?.getD []).length<=ins.flatten.length:=by
   cases ins with
   | nil=>simp
   | cons a r=>simp
  omega
 .
  rw[if_neg (by omega),if_neg (by omega),if_pos h3]
  have e1:=ended_lines (ins.head?.getD [])
  have e2:(ins.head?.getD []).length<=ins.flatten.length:=by
   cases ins with
   | nil=>simp
   | cons a r=>simp
  have e3:=made_len6 n.c h4 (lines (ins.head?.getD [])) (by have:=lines_length (ins.head?.getD []);omega)
  rw[flat_one]
  omega
 .
  rw[if_neg (by omega),if_neg (by omega),if_neg (by omega),if_pos h3]
  have h5:ins.length<=5:=by
   rw[hi]
   unfold mayHave at h2
   rw[if_neg (by omega),if_pos h3] at h2
   exact (of_decide_eq_true h2).2
  have e1:=joined_len6 n.how n.c (jchk_chk h4) (ins.map lines) (by have:=flat_lines_count ins;omega) (by simpa using h5)
  have e2:=flat_lines_len ins
  rw[flat_one]
  omega
def AheadB (fs:List SFile) (ns:List SNode) (k:Nat):Prop:=
 ∃(tk:List (Int × Int)) (L:Sizes),gchkL [] ns []=gchkL (ns.take k) (ns.drop k) tk/\Sizes.sum L<=capB ns k /\
  ∀p,portOk (ns.take k) p=true->p∉tk->(p,(portAt (outsL fs [] (ns.take k)) p).length)∈L
theorem ahead_insB {fs:List SFile} {ns:List SNode} {k:Nat} {n:SNode} (hg:(gchkL [] ns []).1=0) (ha:AheadB fs ns k) (hn:ns[k]? = some n) :
 nodeChk n=0/\(∀p∈n.ins,portOk (ns.take k) p=true)/\((ns.drop (k+1)).isEmpty=decide (n.kind=5))/\(n.ins.map (portAt (outsL fs [] (ns.take k)))).flatten.length<=capB ns k:=by
 obtain⟨tk,L,h1,h2,h3⟩:=ha
 rw[h1,drop_node hn] at hg
 obtain⟨e1,e2,e3,e4⟩:=gchkL_cons hg
 obtain⟨f1,f2,f3⟩:=ins_facts _ _ _ e2
 refine⟨e1,fun p hp=>(f2 p hp).1,e3,?_⟩
 obtain⟨L',g1,_⟩:=sizes_many (fun p=>(portAt (outsL fs [] (ns.take k)) p).length) n.ins L f3 (fun p hp=>h3 p (f2 p hp).1 (f2 p hp).2)
 rw[flat_sum,List.map_map]
 have:(List.map (List.length ∘ portAt (outsL fs [] (ns.take k))) n.ins).sum=(List.map (fun p=>(portAt (outsL fs [] (ns.take k)) p).length) n.ins).sum:=rfl
 omega
theorem ahead_startB (fs:List SFile) (ns:List SNode):AheadB fs ns 0:=⟨[],[],by simp,by simp[Sizes.sum,capB],fun p h=>by
 obtain⟨i,j,n,_,hn,_⟩:=port_nat h
 simp at hn⟩
theorem ahead_stepB {fs:List SFile} {ns:List SNode} {k:Nat} {n:SNode} (hf:∀f∈fs,f.b.length<=4000) (h60:ns.length<=60) (hg:(gchkL [] ns []).1=0) (ha:AheadB fs ns k) (hn:ns[k]? = some n):AheadB fs ns (k+1):=by
 have hk:k<ns.length:=(gSm hn).1
 obtain⟨q1,q2,q3,q4⟩:=ahead_insB hg ha hn
 obtain⟨tk,L,h1,h2,h3⟩:=ha
 have hg0:=hg
 rw[h1,drop_node hn] at hg
 obtain⟨e1,e2,e3,e4⟩:=gchkL_cons hg
 obtain⟨f1,f2,f3⟩:=ins_facts _ _ _ e2
 obtain⟨L',g1,g2⟩:=sizes_many (fun p=>(portAt (outsL fs [] (ns.take k)) p).length) n.ins L f3 (fun p hp=>h3 p (f2 p hp).1 (f2 p hp).2)
 have hml:=nodeMade_lenB e1 fs hf (n.ins.map (portAt (outsL fs [] (ns.take k)))) (by simp) (by have:=capB_le h60 k (by omega);omega)
 obtain⟨outs,ho⟩:∃outs,outs=nodeMade n fs (n.ins.map (portAt (outsL fs [] (ns.take k)))):=⟨_,rfl⟩
 have hcount:=nodeMade_count e1 fs (n.ins.map (portAt (outsL fs [] (ns.take k))))
 have hout:=outs_take fs ns k hn
 rw[<- ho] at hml hcount hout
 refine⟨tk++n.ins,L'++(List.range outs.length).map (fun (j:Nat)=>(((k:Int),(j:Int)),(outs[j]?.getD []).length)),?_,?_,?_⟩
 . rw[h1,drop_node hn,e4,f1,take_node hn]
 .
  rw[Sizes.sum_append,sizes_new]
  have hs:(n.ins.map (portAt (outsL fs [] (ns.take k)))).flatten.length=(List.map (fun p=>(portAt (outsL fs [] (ns.take k)) p).length) n.ins).sum:=by
   rw[flat_sum,List.map_map];rfl
  rw[capB_succ hn]
  omega
 .
  intro p hp hpt
  rw[List.mem_append,not_or] at hpt
  obtain⟨i,j,m,rfl,hm,hj⟩:=port_nat hp
  rw[List.mem_append]
  have hik:i<(ns.take (k+1)).length:=(gSm hm).1
  rw[List.length_take] at hik
  rw[hout]
  by_cases hlt:i<k
  .
   left
   have hp':portOk (ns.take k) ((i:Int),(j:Int))=true:=by
    unfold portOk
    have hm':(ns.take k)[i]? = some m:=by
     rw[List.getElem?_take_of_lt hlt]
     rwa [List.getElem?_take_of_lt (by omega)] at hm
    simp only[Int.toNat_natCast,hm',Option.map_some,Option.getD_some,Bool.and_eq_true,decide_eq_true_eq]
    refine⟨⟨⟨by omega,?_⟩,by omega⟩,hj⟩
    rw[List.length_take]
    omega
   have hin:=h3 _ hp' hpt.1
   have hpa:portAt (outsL fs [] (ns.take k)++[outs]) ((i:Int),(j:Int))=portAt (outsL fs [] (ns.take k)) ((i:Int),(j:Int)):=by
    unfold portAt
    rw[List.getElem?_append_left (by rw[outsL_len,List.length_take];simp;omega)]
   rw[hpa]
   exact g2 _ hin hpt.2
  .
   right
   have hik':i=k:=by omega
   subst hik'
   have hmn:m=n:=by
    rw[List.getElem?_take_of_lt (by omega),hn] at hm
    injection hm with hm
    exact hm.symm
   subst hmn
   rw[List.mem_map]
   refine⟨j,List.mem_range.2 (by omega),?_⟩
   unfold portAt
   rw[List.getElem?_append_right (by rw[outsL_len,List.length_take];simp;omega),outsL_len,List.length_take,Nat.min_eq_left (by omega)]
   simp
theorem ahead_allB {fs:List SFile} {ns:List SNode} (hf:∀f∈fs,f.b.length<=4000) (h60:ns.length<=60) (hg:(gchkL [] ns []).1=0):∀k,k<=ns.length->AheadB fs ns k
 | 0,_=>ahead_startB fs ns
 | k+1,h=>by
  have hk:k<ns.length:=by omega
  exact ahead_stepB hf h60 hg (ahead_allB hf h60 hg k (by omega)) (gEl hk)
theorem flat_mem_leB:∀{l:List (List UInt8)} {b:List UInt8},b∈l->b.length<=l.flatten.length
 | [],b,h=>by simp at h
 | a::r,b,h=>by
  rw[List.flatten_cons,List.length_append]
  rcases List.mem_cons.1 h with rfl | h
  . omega
  . have:=flat_mem_leB h
    omega
theorem bounded_few {ns:List SNode} {fs:List SFile} (h:gchk ns=0) (hf:∀f∈fs,f.b.length<=4000) (hc:cnt 1 ns<=9):Bounded ns fs:=by
 intro i k
 obtain⟨h1,h2,h3,_⟩:=gchk_zero h
 rw[portAt_nat]
 cases hn:ns[i]? with
 | none=>
  have:(outsL fs [] ns)[i]? = none:=by
   rw[List.getElem?_eq_none_iff] at hn ⊢
   rw[outsL_len]
   simpa using hn
  rw[this]
  simp
 | some n=>
  have hi:i<ns.length:=(gSm hn).1
  obtain⟨q1,q2,q3,q4⟩:=ahead_insB h2 (ahead_allB hf h1 h2 i (by omega)) hn
  have h4:=outs_get fs ns hn (k:=ns.length) hi (Nat.le_refl _)
  rw[List.take_length] at h4
  rw[h4,Option.getD_some]
  have hcb:=capB_le h1 i (by omega)
  have h5:=nodeMade_lenB q1 fs hf (n.ins.map (portAt (outsL fs [] (ns.take i)))) (by simp) (by omega)
  have h6:=capB_succ hn
  have h7:=capB_mono (ns:=ns) (k:=i+1) (by omega)
  have h8:capB ns ns.length<=37209:=by
   unfold capB
   rw[List.take_length]
   omega
  generalize nodeMade n fs (n.ins.map (portAt (outsL fs [] (ns.take i))))=L at *
  cases hk:L[k]? with
  | none=>simp
  | some b=>
   have:=flat_mem_leB (mGt hk)
   simp only[Option.getD_some]
   omega
theorem bounded_plan {l:SLine} {w:Nat} {fs:List SFile} (hw:1<=w/\w<=5) (h:lchk l=0) (hf:∀f∈fs,f.b.length<=4000):Bounded (plan l w) fs:=by
 refine bounded_few (plan_right hw h) hf ?_
 rw[cnt_plan hw h (by omega) (by omega)]
 have:=(lchk_all h).1.2.1
 simp
 omega
end Go.Gs
namespace Go.Proofs.YtllgglolcgdehaaGreatDoor
open Go.RowKit Go.Gs Go.Maps
set_option linter.unusedVariables false
theorem reach_nodes {ns:List SNode} {fs:List SFile} {room:Int} {M:SMach} (h:Go.Gs.Reach ns fs room M):M.ns=ns/\M.fs=fs:=by
 obtain⟨C,E,h⟩:=h
 exact⟨h.ens,h.efs⟩
theorem reach_inv {ns : List SNode} {fs : List SFile} {room : Int} (hg : gchk ns = 0) (hf : fchk fs = 0) (hb : Bounded ns fs) : InvM ns fs (Go.Gs.Reach ns fs room) :=
  ⟨fun M h => h.shape hg hf, fun M h => by
    obtain ⟨q1, q2, q3⟩ := mchk_zero (h.chk hg hf hb)
    exact smallM_of q1 (fun p hp => ⟨fun b hb => by have := (q2 p hp).1 b hb; omega, fun b hb => by have := (q2 p hp).2 b hb; omega⟩) (by omega),
   fun M h => reach_nodes h, fun M a h => h.step (right_graph hg) a⟩
theorem shape_pos {M:SMach} (h:Shape M):∀p∈M.ps,(Lit.int .i64 p.pos).wf=true:=by
 intro p hp
 obtain⟨i,hi⟩:=List.getElem?_of_mem hp
 obtain⟨n,hn⟩:∃n,M.ns[i]? = some n:=⟨_,gEl (by rw[<- h.plen];exact (gSm hi).1)⟩
 have hF:=h.proc i n p hn hi
 have h1:=(right_ins (h.g.node n (mGt hn))).1
 have h2:=hF.pos0
 have h3:=hF.pos1
 have h4:p.pos<=5:=by omega
 have h5:∀z:Int,0<=z->z<=5->(Lit.int .i64 z).wf=true:=by
  intro z h0 h5
  have:z=0\/z=1\/z=2\/z=3\/z=4\/z=5:=by omega
  rcases this with rfl | rfl | rfl | rfl | rfl | rfl <;> rfl
 exact h5 _ h2 h4
theorem reach_fits {ns:List SNode} {fs:List SFile} {room:Int} {M:SMach} (hg:gchk ns=0) (hf:fchk fs=0) (hfn:∀n∈ns,FitsN n) (hff:∀f∈fs,FitsF f) (h:Go.Gs.Reach ns fs room M):FitsM M:=by
 obtain⟨h1,h2⟩:=reach_nodes h
 exact⟨by rw[h1];exact hfn,by rw[h2];exact hff,shape_pos (h.shape hg hf)⟩
theorem reach_fin {ns:List SNode} {fs:List SFile} {room:Int} {M:SMach} (hg:gchk ns=0) (hf:fchk fs=0) (hb:Bounded ns fs) (hroom:1<=room) (h:Go.Gs.Reach ns fs room M):∃k r,Fins k M (r,0)/\overS r=true/\Go.Gs.Reach ns fs room r/\r.sunk=Go.Gs.sunk ns fs:=by
 obtain⟨k,r,hF⟩:=fin_ex (h.shape hg hf)
 obtain⟨h1,h2,h3,h4⟩:=Go.Gs.Reach.fin hg hf hb hroom hF h
 obtain⟨r,e⟩:=r
 simp only at h1
 subst h1
 exact⟨k,r,hF,h2,h3,h4⟩
theorem mill_bound:Bounded sorterNs flowFs:=bounded_few sorter_right (fun f hf=>by simp[flowFs] at hf;subst hf;decide) (by decide)
theorem mill_reach:Go.Gs.Reach sorterNs flowFs 1 (freshM sorterNs flowFs 1):=Go.Gs.Reach.fresh (right_graph sorter_right) (by decide) (by decide)
theorem mill_new:newS sorterNs flowFs 1=(freshM sorterNs flowFs 1,0):=by
 unfold newS
 rw[if_neg (by simp[sorter_right]),if_neg (by simp[flow_files]),if_neg (by decide)]
theorem mill_step0:(stepS (freshM sorterNs flowFs 1) 5).2=8:=by decide
theorem mill_chk:mchk (freshM sorterNs flowFs 1)=0:=mill_reach.chk sorter_right flow_files mill_bound
theorem mill_step:stepR (freshM sorterNs flowFs 1) 5=(zeroM,8):=by
 unfold stepR
 rw[if_neg (by simp[mill_chk]),if_pos (by rw[mill_step0];decide),mill_step0]
theorem mill_sunk:Go.Gs.sunk sorterNs flowFs=[48,10,49,10,50,10,51,10]:=by
 have h:=flow_made
 rw[evalS_ok sorter_right flow_files] at h
 exact congrArg Prod.fst h
def pcell (r:Int):List Value:=[.slice none 0 0,.int .i64 r,.bool false,.bool false]
structure QS where
 il:Nat
 ol:Nat
 gg:Nat
 go:Nat
def qcell (q:QS):List Value:=[.slice (some ⟨q.gg,0,none⟩) q.il q.il,.int .i64 0,.slice (some ⟨q.go,0,none⟩) q.ol q.ol,.bool false,.bool false]
def NilRow (w:World) (g n:Nat):Prop:=∀j,j<n->w.cell? ⟨g,j,none⟩=some (.slice none 0 0)
structure NewAt (w2 wr:World) (bM:Nat) (vN vF vX vP vS:Value) (L:List Int) (Q:List QS):Prop where
 bel:Below w2.heap.size w2 wr
 lo:w2.heap.size<=bM
 box:wr.heap[bM]? = some (.cells #[vN,vF,vX,vP,vS] 30 (0,0))
 rX:wr.ownsRow w2.heap.size 66 4 vX L.length (L.map pcell).flatten
 rP:wr.ownsRow w2.heap.size 76 5 vP Q.length (Q.map qcell).flatten
 nX:vX.ownBlock≠some bM
 nP:vP.ownBlock≠some bM
 nXP:∀g,vX.ownBlock=some g->vP.ownBlock≠some g
 lists:∀q∈Q,q.il<=1000/\q.ol<=1000/\NilRow wr q.gg q.il/\NilRow wr q.go q.ol /\ ∀g,g=q.gg\/g=q.go->g<wr.heap.size/\g≠bM/\vX.ownBlock≠some g/\vP.ownBlock≠some g/\w2.heap.size<=g
theorem nil_keep {w w':World} {g n:Nat} (h:NilRow w g n) (hk:w'.heap[g]? = w.heap[g]?):NilRow w' g n:=fun j hj=>by
 have:=h j hj
 simp only[World.cell?] at this ⊢
 rw[hk]
 exact this
theorem NewAt.below {w2 wr w':World} {bM:Nat} {vN vF vX vP vS:Value} {L:List Int} {Q:List QS} (h:NewAt w2 wr bM vN vF vX vP vS L Q) (hb:Below wr.heap.size wr w'):NewAt w2 w' bM vN vF vX vP vS L Q:=by
 have hbl:bM<wr.heap.size:=(aSm h.box).1
 have hs:=hb.size
 refine⟨h.bel.trans (hb.mono h.bel.size),h.lo,(hb.block _ hbl).trans h.box,ownsRow_keep h.rX (fun g hg=>hb.block g (h.rX.lt g hg).2),ownsRow_keep h.rP (fun g hg=>hb.block g (h.rP.lt g hg).2),h.nX,h.nP,h.nXP,fun q hq=>?_⟩
 obtain⟨a1,a2,a3,a4,a5⟩:=h.lists q hq
 refine⟨a1,a2,nil_keep a3 (hb.block _ (a5 _ (.inl rfl)).1),nil_keep a4 (hb.block _ (a5 _ (.inr rfl)).1),fun g hg=>?_⟩
 obtain⟨b1,b2,b3,b4⟩:=a5 g hg
 exact⟨by omega,b2,b3,b4⟩
theorem infoPipeN:(Tryz.prog.info? 66).map (fun i=>(i.zero,i.size,i.bytes))=some (some (.agg #[.slice none 0 0,.int .i64 0,.bool false,.bool false]),4,40):=infoPipeE
theorem NewAt.pipe {w2 wr:World} {bM:Nat} {vN vF vX vP vS:Value} {L:List Int} {Q:List QS} (h:NewAt w2 wr bM vN vF vX vP vS L Q) (hL:L.length<=1000) {ad:Addr} {c:Nat} {r:Int} (hc:∀j u,(pcell r)[j]? = some u->wr.cell? (ad.add j)=some u) (ty:TypeId) :
 ∃v' w',(Builtin.append_ #[26,26] ty #[vX,.slice (some ad) 1 c]).run Tryz.prog wr=.ok v' w'/\(∃a' c',v'=.slice a' (L.length+1) c')/\w'.heap[bM]? = wr.heap[bM]? /\ (∀g,g<wr.heap.size->g<w2.heap.size\/vX.ownBlock≠some g->w'.heap[g]? = wr.heap[g]?)/\(∀g,g<wr.heap.size->vX.ownBlock≠some g->v'.ownBlock≠some g)/\NewAt w2 (w'.setCell ⟨bM,2,none⟩ v') bM vN vF v' vP vS (L++[r]) Q:=by
 obtain⟨i0,hi,hi0,hi1,hi2⟩:=info_parts infoPipeN
 have hbl:bM<wr.heap.size:=(aSm h.box).1
 obtain⟨v',w',hr,hown,hg,_,hl⟩:=run_append_own_at (P:=Tryz.prog) wr w2.heap.size 26 ty 66 i0 (.agg #[.slice none 0 0,.int .i64 0,.bool false,.bool false]) 4 40 Tryz.underlying26 hi hi0 hi1 hi2 rfl (by decide) vX L.length (L.map pcell).flatten h.rX ad 1 c (pcell r) rfl hc (fun u hu=>by unfold pcell at hu;simp at hu;rcases hu with rfl | rfl | rfl | rfl <;> rfl) (by unfold maxLen;omega) (by omega) h.bel.size
 have hk:∀g,g<wr.heap.size->vX.ownBlock≠some g->w'.heap[g]? = wr.heap[g]?:=fun g hgs hn=>hg.block g hgs (fun e=>hn e.symm)
 have hbM:w'.heap[bM]? = wr.heap[bM]?:=hk bM hbl h.nX
 obtain⟨⟨a',c',hv',_,_⟩,_⟩:=owns_formE hown
 have hs:=hg.size
 have hnX':v'.ownBlock≠some bM:=fun e=>by
  rcases hl with e1 | e1
  . exact h.nX (by rw[<- e1];exact e)
  . rw[e1] at e
    injection e with e
    omega
 have hk2:∀g,g≠bM->(w'.setCell ⟨bM,2,none⟩ v').heap[g]? = w'.heap[g]?:=fun g hg'=>Below.heap_setCell _ _ _ _ hg'
 have hlow:∀g,g<w2.heap.size->vX.ownBlock≠some g:=fun g hg' e=>by have:=(h.rX.lt g e).1;omega
 have hoff:∀g,g<wr.heap.size->vX.ownBlock≠some g->v'.ownBlock≠some g:=fun g h1 h2 e=>by
  rcases hl with e1 | e1
  . exact h2 (by rw[<- e1];exact e)
  . rw[e1] at e
    injection e with e
    omega
 refine⟨v',w',hr,⟨a',c',hv'⟩,hbM,fun g h1 h2=>hk g h1 (by rcases h2 with h2 | h2;exact hlow g h2;exact h2),hoff,?_⟩
 refine⟨⟨hg.os.trans h.bel.os,hg.tape.trans h.bel.tape,hg.output.trans h.bel.output,by have:=h.bel.size;simp;omega,fun g hg'=>?_⟩,h.lo,?_,?_,?_,hnX',h.nP,fun g hg'=>?_,fun q hq=>?_⟩
 . rw[hk2 g (by have:=h.lo;omega),hk g (by have:=h.bel.size;omega) (hlow g hg')]
   exact h.bel.block g hg'
 . have hb':=hbM.trans h.box
   rw[setCell_eq_setRow w' bM 2 _ _ (0,0) v' hb']
   exact setRow_heap w' bM _ _ _ _ hb'
 . rw[List.map_append,List.flatten_append,List.length_append]
   refine ownsRow_keep ?_ (fun g hg'=>hk2 g (fun e=>hnX' (by rw[<- e];exact hg')))
   simpa using hown
 . refine ownsRow_keep h.rP (fun g hg'=>?_)
   rw[hk2 g (fun e=>h.nP (by rw[<- e];exact hg'))]
   exact hk g (h.rP.lt g hg').2 (fun e=>h.nXP g e hg')
 .
  rcases hl with e1 | e1
  . exact h.nXP g (by rw[<- e1];exact hg')
  . rw[e1] at hg'
    injection hg' with hg'
    intro e
    have:=(h.rP.lt g e).2
    omega
 .
  obtain⟨a1,a2,a3,a4,a5⟩:=h.lists q hq
  have hq1:=a5 _ (.inl rfl)
  have hq2:=a5 _ (.inr rfl)
  refine⟨a1,a2,nil_keep a3 ((hk2 _ hq1.2.1).trans (hk _ hq1.1 hq1.2.2.1)),nil_keep a4 ((hk2 _ hq2.2.1).trans (hk _ hq2.1 hq2.2.2.1)),fun g hg'=>?_⟩
  obtain⟨b1,b2,b3,b4⟩:=a5 g hg'
  exact⟨by simp;omega,b2,hoff g b1 b3,b4⟩
theorem NewAt.proc {w2 wr:World} {bM:Nat} {vN vF vX vP vS:Value} {L:List Int} {Q:List QS} (h:NewAt w2 wr bM vN vF vX vP vS L Q) (hQ:Q.length<=1000) {ad:Addr} {c:Nat} {q:QS} (hc:∀j u,(qcell q)[j]? = some u->wr.cell? (ad.add j)=some u) (ty:TypeId)
 (hq:q.il<=1000/\q.ol<=1000/\NilRow wr q.gg q.il/\NilRow wr q.go q.ol /\ ∀g,g=q.gg\/g=q.go->g<wr.heap.size/\g≠bM/\vX.ownBlock≠some g/\vP.ownBlock≠some g/\w2.heap.size<=g) :
 ∃v' w',(Builtin.append_ #[27,27] ty #[vP,.slice (some ad) 1 c]).run Tryz.prog wr=.ok v' w'/\(∃a' c',v'=.slice a' (Q.length+1) c')/\w'.heap[bM]? = wr.heap[bM]? /\ (∀g,g<wr.heap.size->vP.ownBlock≠some g->w'.heap[g]? = wr.heap[g]?)/\Below w2.heap.size w2 w'/\NewAt w2 (w'.setCell ⟨bM,3,none⟩ v') bM vN vF vX v' vS L (Q++[q]):=by
 obtain⟨i0,hi,hi0,hi1,hi2⟩:=info_parts infoProcE
 have hbl:bM<wr.heap.size:=(aSm h.box).1
 obtain⟨v',w',hr,hown,hg,_,hl⟩:=run_append_own_at (P:=Tryz.prog) wr w2.heap.size 27 ty 76 i0 (.agg #[.slice none 0 0,.int .i64 0,.slice none 0 0,.bool false,.bool false]) 5 64 Tryz.underlying27 hi hi0 hi1 hi2 rfl (by decide) vP Q.length (Q.map qcell).flatten h.rP ad 1 c (qcell q) rfl hc (fun u hu=>by unfold qcell at hu;simp at hu;rcases hu with rfl | rfl | rfl | rfl | rfl <;> rfl) (by unfold maxLen;omega) (by omega) h.bel.size
 have hk:∀g,g<wr.heap.size->vP.ownBlock≠some g->w'.heap[g]? = wr.heap[g]?:=fun g hgs hn=>hg.block g hgs (fun e=>hn e.symm)
 have hbM:w'.heap[bM]? = wr.heap[bM]?:=hk bM hbl h.nP
 obtain⟨⟨a',c',hv',_,_⟩,_⟩:=owns_formE hown
 have hs:=hg.size
 have hnP':v'.ownBlock≠some bM:=fun e=>by
  rcases hl with e1 | e1
  . exact h.nP (by rw[<- e1];exact e)
  . rw[e1] at e
    injection e with e
    omega
 have hk2:∀g,g≠bM->(w'.setCell ⟨bM,3,none⟩ v').heap[g]? = w'.heap[g]?:=fun g hg'=>Below.heap_setCell _ _ _ _ hg'
 have hlow:∀g,g<w2.heap.size->vP.ownBlock≠some g:=fun g hg' e=>by have:=(h.rP.lt g e).1;omega
 refine⟨v',w',hr,⟨a',c',hv'⟩,hbM,hk,⟨hg.os.trans h.bel.os,hg.tape.trans h.bel.tape,hg.output.trans h.bel.output,by have:=h.bel.size;omega,fun g hg'=>(hk g (by have:=h.bel.size;omega) (hlow g hg')).trans (h.bel.block g hg')⟩,?_⟩
 have hoff:∀g,g<wr.heap.size->vP.ownBlock≠some g->v'.ownBlock≠some g:=fun g h1 h2 e=>by
  rcases hl with e1 | e1
  . exact h2 (by rw[<- e1];exact e)
  . rw[e1] at e
    injection e with e
    omega
 refine⟨⟨hg.os.trans h.bel.os,hg.tape.trans h.bel.tape,hg.output.trans h.bel.output,by have:=h.bel.size;simp;omega,fun g hg'=>?_⟩,h.lo,?_,?_,?_,h.nX,hnP',fun g hg'=>?_,fun p hp=>?_⟩
 . rw[hk2 g (by have:=h.lo;omega),hk g (by have:=h.bel.size;omega) (hlow g hg')]
   exact h.bel.block g hg'
 . have hb':=hbM.trans h.box
   rw[setCell_eq_setRow w' bM 3 _ _ (0,0) v' hb']
   exact setRow_heap w' bM _ _ _ _ hb'
 . refine ownsRow_keep h.rX (fun g hg'=>?_)
   rw[hk2 g (fun e=>h.nX (by rw[<- e];exact hg'))]
   exact hk g (h.rX.lt g hg').2 (h.nXP g hg')
 . rw[List.map_append,List.flatten_append,List.length_append]
   refine ownsRow_keep ?_ (fun g hg'=>hk2 g (fun e=>hnP' (by rw[<- e];exact hg')))
   simpa using hown
 . exact hoff g (h.rX.lt g hg').2 (h.nXP g hg')
 .
  have key:p.il<=1000/\p.ol<=1000/\NilRow wr p.gg p.il/\NilRow wr p.go p.ol /\ ∀g,g=p.gg\/g=p.go->g<wr.heap.size/\g≠bM/\vX.ownBlock≠some g/\vP.ownBlock≠some g/\w2.heap.size<=g:=by
   rcases List.mem_append.1 hp with hp | hp
   . exact h.lists p hp
   . rw[List.mem_singleton.1 hp];exact hq
  obtain⟨a1,a2,a3,a4,a5⟩:=key
  have hq1:=a5 _ (.inl rfl)
  have hq2:=a5 _ (.inr rfl)
  refine⟨a1,a2,nil_keep a3 ((hk2 _ hq1.2.1).trans (hk _ hq1.1 hq1.2.2.2.1)),nil_keep a4 ((hk2 _ hq2.2.1).trans (hk _ hq2.1 hq2.2.2.2.1)),fun g hg'=>?_⟩
  obtain⟨b1,b2,b3,b4⟩:=a5 g hg'
  exact⟨by simp;omega,b2,b3,hoff g b1 b4.1,b4.2⟩
theorem NewAt.procX {w2 wr:World} {bM:Nat} {vN vF vX vP vS:Value} {L:List Int} {Q:List QS} (h:NewAt w2 wr bM vN vF vX vP vS L Q) (hQ:Q.length<=1000) {y W:World} (hy:Below wr.heap.size wr y) (hW:Below y.heap.size y W) {ad gg go il ol:Nat} (hil:il<=1000) (hol:ol<=1000) (hgg:wr.heap.size<=gg/\gg<y.heap.size) (hgo:wr.heap.size<=go/\go<y.heap.size)
 {C1 C2:Array Value} (h1:y.heap[gg]? = some (.cells C1 28 (0,0))) (h2:y.heap[go]? = some (.cells C2 28 (0,0))) (p1:∀j,j<il->C1[j]? = some (.slice none 0 0)) (p2:∀j,j<ol->C2[j]? = some (.slice none 0 0))
 (h3:y.heap[ad]? = some (.cells #[.slice (some ⟨gg,0,none⟩) il il,.int .i64 0,.slice (some ⟨go,0,none⟩) ol ol,.bool false,.bool false] 76 (0,0))) (ty:TypeId) :
 ∃v' w',(Builtin.append_ #[27,27] ty #[vP,.slice (some ⟨ad,0,none⟩) 1 1]).run Tryz.prog W=.ok v' w'/\(∃a' c',v'=.slice a' (Q.length+1) c')/\w'.heap[bM]? = wr.heap[bM]? /\ (∀g,g<wr.heap.size->vP.ownBlock≠some g->w'.heap[g]? = wr.heap[g]?)/\(∀g,g<W.heap.size->vP.ownBlock≠some g->w'.heap[g]? = W.heap[g]?)/\Below w2.heap.size w2 w'/\NewAt w2 (w'.setCell ⟨bM,3,none⟩ v') bM vN vF vX v' vS L (Q++[⟨il,ol,gg,go⟩]):=by
 have hbW:Below wr.heap.size wr W:=hy.trans (hW.mono hy.size)
 have hN:=h.below hbW
 have hs1:=hy.size
 have hs2:=hW.size
 have hbl:bM<wr.heap.size:=(aSm h.box).1
 have hadl:ad<y.heap.size:=(aSm h3).1
 have n1:NilRow W gg il:=fun j hj=>by rw[cell_of_row _ _ _ _ _ _ ((hW.block gg hgg.2).trans h1)];exact p1 j hj
 have n2:NilRow W go ol:=fun j hj=>by rw[cell_of_row _ _ _ _ _ _ ((hW.block go hgo.2).trans h2)];exact p2 j hj
 obtain⟨v',w',e1,e2,e3,e5,e6,e4⟩:=NewAt.proc hN hQ (ad:=⟨ad,0,none⟩) (c:=1) (q:=⟨il,ol,gg,go⟩) (fun j u hu=>by
  rw[addP,cell_of_row _ _ _ _ _ _ ((hW.block ad hadl).trans h3),Nat.zero_add]
  rw[<- Array.getElem?_toList]
  exact hu) ty ⟨hil,hol,n1,n2,fun g hg=>by
   have hgx:wr.heap.size<=g/\g<y.heap.size:=by
    rcases hg with rfl | rfl
    . exact hgg
    . exact hgo
   refine⟨by omega,by omega,fun e=>?_,fun e=>?_,by have:=h.bel.size;omega⟩
   . have:=(h.rX.lt g e).2
     omega
   . have:=(h.rP.lt g e).2
     omega⟩
 exact⟨v',w',e1,e2,e3.trans (hbW.block bM hbl),fun g hg hn=>(e5 g (by omega) hn).trans (hbW.block g hg),e5,e6,e4⟩
theorem rlist_nil {w:World} {g n:Nat} (h:NilRow w g n) (hn:n<=1000):RList w (.slice (some ⟨g,0,none⟩) n n) U (List.replicate n []):=by
 refine⟨List.replicate n (.slice none 0 0),⟨by simp,_,n,by simp,by simp,by unfold maxLen;omega,fun _=>⟨g,0,rfl,fun j u hu=>?_⟩⟩,fun j b hb=>?_⟩
 .
  rw[List.getElem?_replicate] at hu
  split at hu
  . rename_i hj
    injection hu with hu
    subst hu
    rw[Nat.zero_add]
    exact h j hj
  . cases hu
 .
  rw[List.getElem?_replicate] at hb
  split at hb
  . rename_i hj
    injection hb with hb
    subst hb
    exact⟨.slice none 0 0,by rw[List.getElem?_replicate,if_pos hj],rnil⟩
  . cases hb
theorem NewAt.mach {w2 wr:World} {bM:Nat} {vN vF vX vP vS:Value} {L:List Int} {Q:List QS} (h:NewAt w2 wr bM vN vF vX vP vS L Q) {ns:List SNode} {fs:List SFile} (hN:RNodes w2 vN ns) (hF:RFiles w2 vF fs) {aS:Option Addr} {cs:Nat} (hS:vS=.slice aS 0 cs) (hcs:cs<=maxLen) {M:SMach} (e1:M.ns=ns) (e2:M.fs=fs) (e3:M.pipes=L.map (fun r=>⟨[],r,false,false⟩)) (e4:M.ps=Q.map (fun q=>⟨List.replicate q.il [],0,List.replicate q.ol [],false,false⟩)) (e5:M.sunk=[]) (w':World) (hk:∀g,w2.heap.size<=g->w'.heap[g]? = wr.heap[g]?) (hN':RNodes w' vN ns) (hF':RFiles w' vF fs) :
 ∃an af ax ap cn cf cx cp,vN=.slice an M.ns.length cn/\vF=.slice af M.fs.length cf/\vX=.slice ax M.pipes.length cx/\vP=.slice ap M.ps.length cp/\RMach w' an af ax ap aS cn cf cx cp cs M:=by
 subst e1 e2
 obtain⟨an,cn,eN,_,_⟩:=hN.shape
 obtain⟨af,cf,eF,_,_⟩:=hF.shape
 obtain⟨⟨ax,cx,eX,hx1,hx2⟩,hxf⟩:=owns_formE h.rX
 obtain⟨⟨ap,cp,eP,hp1,hp2⟩,hpf⟩:=owns_formE h.rP
 have hl1:M.pipes.length=L.length:=by rw[e3,List.length_map]
 have hl2:M.ps.length=Q.length:=by rw[e4,List.length_map]
 have hcell:∀g j u,w2.heap.size<=g->wr.cell? ⟨g,j,none⟩=some u->w'.cell? ⟨g,j,none⟩=some u:=fun g j u hg hu=>by
  have:=hk g hg
  simp only[World.cell?] at hu ⊢
  rw[this]
  exact hu
 refine⟨an,af,ax,ap,cn,cf,cx,cp,eN,eF,by rw[hl1];exact eX,by rw[hl2];exact eP,by rw[eN] at hN';exact hN',by rw[eF] at hF';exact hF',⟨ax,cx,rfl,by omega,hx2,fun hn=>?_⟩,⟨ap,cp,rfl,by omega,hp2,fun hn=>?_⟩,?_⟩
 .
  obtain⟨g,c,q1,_,_,_,hc,_⟩:=hxf (by omega)
  have hgl:=(h.rX.lt g (by rw[q1];rfl)).1
  rw[eX] at q1
  injection q1 with q1 _ _
  refine⟨g,0,q1,fun j x hx=>?_⟩
  rw[e3,List.getElem?_map] at hx
  cases hr:L[j]? with
  | none=>rw[hr] at hx;cases hx
  | some r=>
   rw[hr] at hx
   simp only[Option.map_some,Option.some.injEq] at hx
   subst hx
   have hjl:j<L.length:=(gSm hr).1
   have hat:=flat_at (k:=4) (L.map pcell) j (pcell r) (fun y hy=>by obtain⟨z,_,rfl⟩:=List.mem_map.1 hy;rfl) (by rw[List.getElem?_map,hr];rfl)
   rw[Nat.zero_add]
   exact⟨none,0,hcell g _ _ hgl ((hc (j*4) (by omega)).trans (hat 0 (by omega))),hcell g _ _ hgl ((hc (j*4+1) (by omega)).trans (hat 1 (by omega))),hcell g _ _ hgl ((hc (j*4+2) (by omega)).trans (hat 2 (by omega))),hcell g _ _ hgl ((hc (j*4+3) (by omega)).trans (hat 3 (by omega))),rnil⟩
 .
  obtain⟨g,c,q1,_,_,_,hc,_⟩:=hpf (by omega)
  have hgl:=(h.rP.lt g (by rw[q1];rfl)).1
  rw[eP] at q1
  injection q1 with q1 _ _
  refine⟨g,0,q1,fun j p hp=>?_⟩
  rw[e4,List.getElem?_map] at hp
  cases hr:Q[j]? with
  | none=>rw[hr] at hp;cases hp
  | some q=>
   rw[hr] at hp
   simp only[Option.map_some,Option.some.injEq] at hp
   subst hp
   have hjl:j<Q.length:=(gSm hr).1
   obtain⟨a1,a2,a3,a4,a5⟩:=h.lists q (mGt hr)
   have hat:=flat_at (k:=5) (Q.map qcell) j (qcell q) (fun y hy=>by obtain⟨z,_,rfl⟩:=List.mem_map.1 hy;rfl) (by rw[List.getElem?_map,hr];rfl)
   rw[Nat.zero_add]
   have hlen1:(List.replicate q.il ([]:List UInt8)).length=q.il:=by simp
   have hlen2:(List.replicate q.ol ([]:List UInt8)).length=q.ol:=by simp
   refine⟨some ⟨q.gg,0,none⟩,q.il,some ⟨q.go,0,none⟩,q.ol,?_,hcell g _ _ hgl ((hc (j*5+1) (by omega)).trans (hat 1 (by omega))),?_,hcell g _ _ hgl ((hc (j*5+3) (by omega)).trans (hat 3 (by omega))),hcell g _ _ hgl ((hc (j*5+4) (by omega)).trans (hat 4 (by omega))),?_,?_⟩
   . simp only[hlen1]
     exact hcell g _ _ hgl ((hc (j*5) (by omega)).trans (hat 0 (by omega)))
   . simp only[hlen2]
     exact hcell g _ _ hgl ((hc (j*5+2) (by omega)).trans (hat 2 (by omega)))
   . simp only[hlen1]
     exact rlist_nil (nil_keep a3 (hk _ (a5 _ (.inl rfl)).2.2.2.2)) a1
   . simp only[hlen2]
     exact rlist_nil (nil_keep a4 (hk _ (a5 _ (.inr rfl)).2.2.2.2)) a2
 . rw[e5]
   exact⟨rfl,aS,cs,rfl,Nat.zero_le _,hcs,fun hn=>absurd rfl hn⟩
end Go.Proofs.YtllgglolcgdehaaGreatDoor
namespace Go.Gs
open Go.RowKit
set_option linter.unusedVariables false
section
variable {P:Program} {ops:Array Oper} {Q:Exit->Act->World->Prop}
theorem count_set_true {l:List Bool} {i:Nat} (h:l[i]? = some false):(l.set i true).count false+1=l.count false:=by
 induction l generalizing i with
 | nil=>simp at h
 | cons b l ih=>
  cases i with
  | zero=>
   simp only[List.getElem?_cons_zero,Option.some.injEq] at h
   subst h
   simp
  | succ i=>
   simp only[List.getElem?_cons_succ] at h
   have:=ih h
   simp only[List.set_cons_succ,List.count_cons]
   omega
theorem getD_false {listed:Array Bool} {i:Nat} (h:listed.getD i true=false):listed.toList[i]? = some false/\i<listed.size:=by
 rw[Array.getD_eq_getD_getElem?] at h
 cases hl:listed[i]? with
 | none=>rw[hl] at h;cases h
 | some b=>
  rw[hl] at h
  simp only[Option.getD_some] at h
  subst h
  exact⟨by simpa using hl,(aSm hl).1⟩
theorem wpAny_inv (hac : ∀ (i : Nat) (o : Oper), ops[i]? = some o → ∀ e ∈ o.after, e.on < i) (Inv : (Nat → Bool) → Act → World → Prop)
    (hstep : ∀ (L : Nat → Bool) (i : Nat) (o : Oper) (a : Act) (w : World), ops[i]? = some o → L i = false → (∀ e ∈ o.after, Region.binds .any e = true → L e.on = true) → Inv L a w → wpOp P ops Q i (fun a' w' => Inv (fun j => if j = i then true else L j) a' w') a w)
    (hend : ∀ (L : Nat → Bool) (a : Act) (w : World), (∀ i, i < ops.size → L i = true) → Inv L a w → Q .normal a w) :
    ∀ (fuel : Nat) (listed : Array Bool) (a : Act) (w : World), listed.size = ops.size → listed.toList.count false ≤ fuel → Inv (fun j => listed.getD j false) a w → wpAny P .any ops Q fuel listed a w := by
  have hall : ∀ (listed : Array Bool), listed.size = ops.size → Region.ready .any ops listed = [] → ∀ i, i < ops.size → listed.getD i false = true := by
    intro listed hs hr i
    induction i using Nat.strongRecOn with
    | ind i ih =>
      intro hi
      cases hl : listed[i]? with
      | none => rw [Array.getElem?_eq_none_iff] at hl; omega
      | some b =>
        cases b with
        | true => rw [Array.getD_eq_getD_getElem?, hl]; rfl
        | false =>
          exfalso
          have : i ∈ Region.ready .any ops listed := mem_ready.2 ⟨by rw [Array.getD_eq_getD_getElem?, hl]; rfl, ops[i], by simp [hi], fun e he hb => ih e.on (hac i _ (by simp [hi]) e he) (by have := hac i _ (show ops[i]? = some ops[i] by simp [hi]) e he; omega)⟩
          rw [hr] at this
          cases this
  intro fuel
  induction fuel with
  | zero =>
    intro listed a w hs hc hI
    have hr : Region.ready .any ops listed = [] := by
      rw [List.eq_nil_iff_forall_not_mem]
      intro i hi
      obtain ⟨h1, _⟩ := mem_ready.1 hi
      have h2 := (getD_false h1).1
      have : false ∈ listed.toList := List.mem_of_getElem? h2
      have := List.count_pos_iff.2 this
      omega
    exact ⟨hr, hend _ a w (hall listed hs hr) hI⟩
  | succ fuel ih =>
    intro listed a w hs hc hI
    refine ⟨fun hr => hend _ a w (hall listed hs hr) hI, fun i hi => ?_⟩
    obtain ⟨h1, o, ho, h2⟩ := mem_ready.1 hi
    obtain ⟨h3, h4⟩ := getD_false h1
    have hLi : listed.getD i false = false := by rw [Array.getD_eq_getD_getElem?]; have : listed[i]? = some false := by simpa using h3
                                                 rw [this]; rfl
    refine wpOp_mono ?_ (hstep _ i o a w ho hLi h2 hI)
    intro a' w' hI'
    refine ih _ a' w' (by simp [hs]) ?_ ?_
    . have := count_set_true h3
      rw [Array.toList_setIfInBounds]
      omega
    . have e : (fun j => (listed.setIfInBounds i true).getD j false) = fun j => if j = i then true else listed.getD j false := by
        funext j
        by_cases hj : j = i
        . subst hj
          rw [if_pos rfl, Array.getD_eq_getD_getElem?, Array.getElem?_setIfInBounds_self_of_lt h4]
          rfl
        . rw [if_neg hj, getD_set_ne false (fun e => hj e.symm)]
      rw [e]
      exact hI'
theorem wp_region_inv {id:Nat} {a:Act} {w:World} (hm:P.follows .mixedOrders=true) (hac:((List.range ops.size).all fun i=>((ops[i]?).map (·.after.all fun e=>decide (e.on<i))).getD true)=true) (Inv:(Nat->Bool)->Act->World->Prop)
 (hstep:∀(L:Nat->Bool) (i:Nat) (o:Oper) (a:Act) (w:World),ops[i]? = some o->L i=false->(∀e∈o.after,Region.binds .any e=true->L e.on=true)->Inv L a w->wpOp P ops Q i (fun a' w'=>Inv (fun j=>if j=i then true else L j) a' w') a w)
 (hend:∀(L:Nat->Bool) (a:Act) (w:World),(∀i,i<ops.size->L i=true)->Inv L a w->Q .normal a w)
 (h0:Inv (fun _=>false) a { w with drawn:=w.drawn+1 }):(Code.region id ops true).wp P Q a w:=by
 refine wp_region_any hm (wpAny_inv ?_ Inv hstep hend ops.size _ a _ (by simp) (by simp) ?_)
 .
  intro i o ho e he
  have hi:i<ops.size:=(aSm ho).1
  have:=List.all_eq_true.1 hac i (List.mem_range.2 hi)
  rw[ho] at this
  simp only[Option.map_some,Option.getD_some,Array.all_eq_true_iff_forall_mem,decide_eq_true_eq] at this
  exact this e he
 .
  have e:(fun j=>(Array.replicate ops.size false).getD j false)=fun _=>false:=by
   funext j
   rw[Array.getD_eq_getD_getElem?]
   cases h:(Array.replicate ops.size false)[j]? with
   | none=>rfl
   | some b=>
    have:=Array.mem_of_getElem? h
    rw[Array.mem_replicate] at this
    rw[this.2];rfl
  rw[e];exact h0
end
end Go.Gs
namespace Go.Gs
open Go.RowKit
set_option linter.unusedVariables false
def updV (L:Nat->Bool) (i:Nat):Nat->Bool:=fun j=>if j=i then true else L j
theorem ev_neV {a:Act} {d s:Nat} {v:Value} (h:s≠d):(a.put (some d) v).eval (.tmp s)=a.eval (.tmp s):=by
 simp only[Act.put,Act.eval]
 rw[Array.getD_eq_getD_getElem?,Array.getD_eq_getD_getElem?,Array.getElem?_setIfInBounds_ne (Ne.symm h)]
theorem ev_eqV {a:Act} {d:Nat} {v:Value} (h:d<a.tmps.size):(a.put (some d) v).eval (.tmp d)=v:=by
 simp only[Act.put,Act.eval]
 rw[Array.getD_eq_getD_getElem?,Array.getElem?_setIfInBounds_self_of_lt h]
 rfl
structure OV (f n:Nat) (V:Nat->Value->World->Prop) (a0:Act) (W0:World) (L:Nat->Bool) (a:Act) (W:World):Prop where
 sz:a.tmps.size=a0.tmps.size
 df:a.defers=a0.defers
 be:Below W0.heap.size W0 W
 vs:∀i,i<n->L i=true->V i (a.eval (.tmp (f+i))) W
 fr:∀s,s<f\/f+n<=s->a.tmps[s]? = a0.tmps[s]?
theorem OV.old {f n:Nat} {V:Nat->Value->World->Prop} {a0:Act} {W0:World} {L:Nat->Bool} {a:Act} {W:World} (h:OV f n V a0 W0 L a W) {s:Nat} (hs:s<f\/f+n<=s):a.eval (.tmp s)=a0.eval (.tmp s):=by
 simp only[Act.eval]
 rw[Array.getD_eq_getD_getElem?,Array.getD_eq_getD_getElem?,h.fr s hs]
theorem fold_put (f:Nat) (g:Nat->Value) (a0:Act):∀m,f+m<=a0.tmps.size->((List.range m).foldl (fun b i=>b.put (some (f+i)) (g i)) a0).defers=a0.defers/\((List.range m).foldl (fun b i=>b.put (some (f+i)) (g i)) a0).tmps.size=a0.tmps.size /\
 ∀s:Nat,((List.range m).foldl (fun b i=>b.put (some (f+i)) (g i)) a0).tmps[s]? = if f<=s/\s<f+m then some (g (s-f)) else a0.tmps[s]?
 | 0,_=>⟨rfl,rfl,fun s=>by rw[if_neg (by omega)];rfl⟩
 | m+1,hm=>by
  obtain⟨h1,h2,h3⟩:=fold_put f g a0 m (by omega)
  rw[List.range_succ,List.foldl_append]
  simp only[List.foldl_cons,List.foldl_nil]
  generalize (List.range m).foldl (fun b i=>b.put (some (f+i)) (g i)) a0=b at *
  refine⟨h1,by simp[Act.put,h2],fun s=>?_⟩
  simp only[Act.put]
  by_cases e:s=f+m
  . subst e
    rw[Array.getElem?_setIfInBounds_self_of_lt (by omega),if_pos (by omega)]
    congr 2
    omega
  . rw[Array.getElem?_setIfInBounds_ne (by omega),h3 s]
    by_cases e2:f<=s/\s<f+m
    . rw[if_pos e2,if_pos (by omega)]
    . rw[if_neg e2,if_neg (by omega)]
theorem OV.form {f n:Nat} {V:Nat->Value->World->Prop} {a0:Act} {W0:World} {L:Nat->Bool} {a:Act} {W:World} (h:OV f n V a0 W0 L a W) (hs:f+n<=a0.tmps.size):a=(List.range n).foldl (fun b i=>b.put (some (f+i)) (a.eval (.tmp (f+i)))) a0:=by
 obtain⟨h1,h2,h3⟩:=fold_put f (fun i=>a.eval (.tmp (f+i))) a0 n hs
 generalize (List.range n).foldl (fun b i=>b.put (some (f+i)) (a.eval (.tmp (f+i)))) a0=b at *
 have ht:a.tmps=b.tmps:=by
  apply Array.ext_getElem?
  intro s
  rw[h3 s]
  by_cases e:f<=s/\s<f+n
  .
   rw[if_pos e]
   have hlt:s<a.tmps.size:=by rw[h.sz];omega
   rw[Array.getElem?_eq_getElem hlt]
   simp only[Act.eval]
   rw[show f+(s-f)=s by omega,Array.getD_eq_getD_getElem?,Array.getElem?_eq_getElem hlt]
   rfl
  . rw[if_neg e]
    exact h.fr s (by omega)
 have hd:a.defers=b.defers:=by rw[h1,h.df]
 obtain⟨t1,d1⟩:=a
 obtain⟨t2,d2⟩:=b
 simp only at ht hd
 subst ht hd
 rfl
theorem wordlen {s:List UInt8} (h:isWord s=true):s.length<=12:=by
 unfold isWord at h
 simp at h
 omega
theorem chk_wordlen {c:Cmd} (h:chk c=0):c.word.length<=12:=by
 unfold chk at h
 split at h
 . cases h
 .
  split at h
  . cases h
  .
   rename_i h1 h2
   split at h
   . cases h
   .
    split at h
    . cases h
    .
     rename_i h3 h4
     by_cases hu:uses c.kind=1
     . have:isWord c.word=true:=by
        cases hw:isWord c.word with
        | true=>rfl
        | false=>exact absurd ⟨hu,Or.inl hw⟩ h4
       exact wordlen this
     . have:c.word=[]:=by
        by_cases e:c.word=[]
        . exact e
        . exact absurd (Or.inl ⟨hu,e⟩) h2
       rw[this];simp
theorem wf_nat {k:Nat} (h:k<=1000):(Lit.int .i64 (k:Int)).wf=true:=by
 simp[Lit.wf,IntKind.min,IntKind.max,IntKind.signed,IntKind.bits]
 omega
theorem right_fits {ns:List SNode} (h:gchk ns=0) {n:SNode} (hn:n∈ns):FitsN n:=by
 obtain⟨k,hk⟩:=List.getElem?_of_mem hn
 have h60:=(gchk_zero h).1
 obtain⟨r1,r2,r3,r4⟩:=right_node (fs:=[]) h (fun f hf=>by cases hf) hk
 obtain⟨q1,q2,q3⟩:=node_kinds r1
 have hnouts:∀m∈ns,nouts m<=5:=by
  intro m hm
  obtain⟨j,hj⟩:=List.getElem?_of_mem hm
  obtain⟨m1,_⟩:=right_node (fs:=[]) h (fun f hf=>by cases hf) hj
  have:=used_kinds (node_kinds m1).1
  unfold nouts
  split
  . rcases this with ⟨a | a,_⟩ | ⟨_,_,a⟩ | ⟨a,_⟩ | ⟨a,_⟩ <;> omega
  . split <;> omega
 refine⟨?_,?_,?_⟩
 .
  unfold hasUnused at q3
  simp only[Bool.or_eq_false_iff,Bool.and_eq_false_iff,Bool.not_eq_false',decide_eq_true_eq] at q3
  rcases q3.1.1.1 with a | a
  . rcases used_kinds q1 with ⟨_,b⟩ | ⟨b,_⟩ | ⟨b,_⟩ | ⟨b,_⟩
    . have:=wordlen b;omega
    . omega
    . omega
    . omega
  . rw[List.isEmpty_iff.1 a];simp
 .
  have hz:zeroC n.c=true->n.c.word.length<=12:=by
   intro hz
   unfold zeroC at hz
   simp at hz
   rw[hz.1.2];simp
  have:n.c.word.length<=12:=by
   unfold hasUnused at q3
   simp only[Bool.or_eq_false_iff,Bool.and_eq_false_iff,Bool.not_eq_false',decide_eq_true_eq] at q3
   rcases q3.1.2 with a | a
   .
    rcases used_kinds q1 with ⟨b,_⟩ | ⟨b,_⟩ | ⟨_,b⟩ | ⟨_,b⟩
    . omega
    . omega
    . exact chk_wordlen b
    .
     unfold jchk at b
     split at b
     . cases b
     . split at b
       . exact chk_wordlen b
       . split at b
         . rename_i hh
           rw[hh.2.1];simp
         . cases b
   . exact hz a
  omega
 .
  intro p hp
  obtain⟨i,j,m,rfl,hi,hj⟩:=port_nat (r2 p hp)
  have hi':i<ns.length:=by
   have:=(gSm hi).1
   rw[List.length_take] at this
   omega
  have hm:m∈ns:=List.mem_of_mem_take (mGt hi)
  have:=hnouts m hm
  exact⟨wf_nat (by omega),wf_nat (by omega)⟩
end Go.Gs
