/- What ExecLine's walk stands on, and more. -/
import Derived.Test.YtllgglolcgdehaaGreatDoorJb01
import Derived.Test.YtllgglolcgdehaaGreatDoorJb02
namespace Go.Proofs.YtllgglolcgdehaaGreatDoor
open Go.RowKit Go.Gs Go.Maps
set_option linter.unusedVariables false
structure LA (w:World) (bm bx:Nat) (a0 a1 a2 a3 a4 b0 b1 b2 b3 b4:Value):Prop where
 m:w.heap[bm]? = some (.cells #[a0,a1,a2,a3,a4] 30 (0,0))
 x:w.heap[bx]? = some (.cells #[b0,b1,b2,b3,b4] 30 (0,0))
theorem LA.below {w w':World} {bm bx:Nat} {a0 a1 a2 a3 a4 b0 b1 b2 b3 b4:Value} (h:LA w bm bx a0 a1 a2 a3 a4 b0 b1 b2 b3 b4) (hb:Below w.heap.size w w'):LA w' bm bx a0 a1 a2 a3 a4 b0 b1 b2 b3 b4:=
 ⟨(hb.block _ (Array.getElem?_eq_some_iff.1 h.m).1).trans h.m,(hb.block _ (Array.getElem?_eq_some_iff.1 h.x).1).trans h.x⟩
theorem LA.lt {w:World} {bm bx:Nat} {a0 a1 a2 a3 a4 b0 b1 b2 b3 b4:Value} (h:LA w bm bx a0 a1 a2 a3 a4 b0 b1 b2 b3 b4):bm < w.heap.size/\bx < w.heap.size:=
 ⟨(Array.getElem?_eq_some_iff.1 h.m).1,(Array.getElem?_eq_some_iff.1 h.x).1⟩
theorem near_ps {M M':SMach} {a:Nat} {n:SNode} (h:Near M a n M'):M'.ps.length=M.ps.length:=by
 obtain ⟨p',e⟩:=h.ps
 rw [e,List.length_set]
theorem near_p {M M':SMach} {a:Nat} {n:SNode} (h:Near M a n M') {j:Nat} (hj:j ≠ a):M'.ps[j]? = M.ps[j]?:=by
 obtain ⟨p',e⟩:=h.ps
 rw [e,List.getElem?_set_ne (by omega)]
theorem line_near {M:SMach} {i:Int} (h0:(stepR M i).2=0):mchk M=0 /\ ∃ (a:Nat) (n:SNode),i=(a:Int)/\M.ns[a]? = some n/\(stepR M i).1=(stepS M i).1/\Near M a n (stepS M i).1:=by
 unfold stepR at h0 ⊢
 by_cases hm:mchk M=0
 . rw [if_neg (by simpa using hm)] at h0 ⊢
   refine ⟨hm,?_⟩
   by_cases hs:(stepS M i).2=0
   . rw [if_neg (by simpa using hs)]
     obtain ⟨hS,_,_⟩:=mchk_zero hm
     unfold stepS at hs ⊢
     by_cases hi:i < 0\/(M.ps.length:Int)<=i
     . rw [if_pos hi] at hs
       exact absurd hs (show ¬ ((5:Int)=0) by decide)
     . rw [if_neg hi] at hs ⊢
       obtain ⟨n,hn⟩:∃ n,M.ns[i.toNat]? = some n:=⟨_,List.getElem?_eq_getElem (by have:=hS.plen;omega)⟩
       obtain ⟨p,hp⟩:∃ p,M.ps[i.toNat]? = some p:=⟨_,List.getElem?_eq_getElem (by omega)⟩
       unfold stepN at hs ⊢
       rw [hn,hp] at hs ⊢
       exact ⟨i.toNat,n,by omega,hn,rfl,near_step hS hn hp hs⟩
   . rw [if_pos hs] at h0
     exact absurd h0 hs
 . rw [if_pos hm] at h0
   exact absurd h0 hm
theorem nodesEq_same:∀ l:List SNode,nodesEq l l=true
 | []=>rfl
 | n::l=>by
  show (nodeEq n n && nodesEq l l)=true
  rw [nodesEq_same l]
  simp [nodeEq]
theorem hn_pipes {M:SMach} (h:Shape M) {j:Nat} {n:SNode} (hn:M.ns[j]? = some n) {q:Nat} (hq:q < n.ins.length):firstIn M.ns j+q < M.pipes.length:=by
 have h1:=firstIn_next hn (show j < j+1 by omega)
 have h2:firstIn M.ns (j+1)<=M.pipes.length:=by
  rw [h.xlen]
  unfold firstIn
  have:=List.take_append_drop (j+1) M.ns
  conv=>rhs;rw [<- this]
  rw [allIns_append,List.length_append]
  omega
 omega
end Go.Proofs.YtllgglolcgdehaaGreatDoor
namespace Go.Proofs.YtllgglolcgdehaaGreatDoor
open Go.RowKit Go.Gs Go.ChangeShapes Go.WideShapes Go.ChangeAt
set_option linter.unusedVariables false
variable {P:Program} {H:Type} {enc:TypeId × Value->H} {W:World} {base:Nat} {held:Bool} {fuel:Nat} {t e q:TypeId} {a:Option Addr} {len cap:Nat} {x:DataW H × List MemPlace}
theorem lists_of_open (ht:P.underlying t=some (.slice e)) (he:P.underlying e=some (.slice q)) (hq:P.underlying q=some (.int .u8)) (ce:P.cellsOf e=1) (cq:P.cellsOf q=1)
 (hf:DataW.trod enc P W base (fun _=>true) held fuel t [.slice a len cap]=some x) :
 ∃ bss:List (List UInt8),bss.length=len/\RList W (.slice a len cap) U bss/\(len=0 \/ ∃ elems spare,x.1=.slice elems spare/\elems.length=len /\ ∀ (j:Nat) (p:List UInt8),bss[j]? = some p->p.length=0 \/ ∃ el sp,(.slice el sp:DataW H) ∈ elems/\el.length=p.length):=by
 rcases Deep.open_slice1 ht ce hf with ⟨hcs,_⟩ | ⟨ad,l,c,m,n,V,D,Pl,hcs,hb,hl,hm,hmm,hx,hall⟩
 . simp at hcs
   obtain ⟨rfl,rfl,rfl⟩:=hcs
   exact ⟨[],rfl,⟨[],⟨rfl,none,0,rfl,Nat.le_refl _,by simp,fun h=>absurd rfl h⟩,fun j p hj=>by simp at hj⟩,.inl rfl⟩
 . simp at hcs
   obtain ⟨rfl,rfl,rfl⟩:=hcs
   simp only [if_true] at hmm
   subst hmm
   have each:∀ i,i < len -> ∃ y:List UInt8,Reads W (V i) y.length (y.map U)/\(y.length=0 \/ ∃ el sp,D i=.slice el sp/\el.length=y.length):=by
    intro i hi
    have hi':=(hall i (by omega)).2
    obtain ⟨a',l',c',hv⟩:∃ a' l' c',V i=.slice a' l' c':=by
     rcases open_ints he hq cq hi' with ⟨hcs,_⟩ | ⟨ad',l',c',zs,hcs,_⟩
     . exact ⟨none,0,0,by simpa using hcs⟩
     . exact ⟨some ad',l',c',by simpa using hcs⟩
    rw [hv] at hi' ⊢
    obtain ⟨bs,hbl,hr⟩:=bytes_of_open he hq cq hi'
    refine ⟨bs,by rw [<- hbl] at hr ⊢;exact hr,?_⟩
    rcases bytes_datum he hq cq hi' with h | ⟨el,sp,h1,h2⟩
    . exact .inl (by omega)
    . exact .inr ⟨el,sp,h1,by omega⟩
   obtain ⟨Y,hY⟩:=Deep.choose_lt each
   have hget:∀ (j:Nat) (p:List UInt8),((List.range len).map Y)[j]? = some p->j < len/\p=Y j:=by
    intro j p hj
    rw [List.getElem?_map] at hj
    cases hr:(List.range len)[j]? with
    | none=>rw [hr] at hj;cases hj
    | some i=>
     rw [hr] at hj
     have h1:=(List.getElem?_eq_some_iff.1 hr).1
     rw [List.length_range] at h1
     rw [List.getElem?_range h1] at hr
     injection hr with hr
     simp only [Option.map_some,Option.some.injEq] at hj
     exact ⟨h1,by rw [<- hj,<- hr]⟩
   refine ⟨(List.range len).map Y,by simp,⟨(List.range len).map V,⟨by simp,some ad,m,by simp,by simpa using hl,hm,fun h0=>?_⟩,fun j p hj=>?_⟩,.inr ⟨_,_,by rw [hx],by simp,fun j p hj=>?_⟩⟩
   . have h0':0 < len:=by
      rcases Nat.eq_zero_or_pos len with h | h
      . subst h;simp at h0
      . exact h
     obtain ⟨b,off,spot⟩:=ad
     have h00:=(hall 0 (by omega)).1
     have hspot:spot=none:=by simpa [Addr.add] using World.cell?_spot h00
     subst hspot
     refine ⟨b,off,rfl,fun j u hu=>?_⟩
     rw [List.getElem?_map] at hu
     cases hr:(List.range len)[j]? with
     | none=>rw [hr] at hu;cases hu
     | some i=>
      rw [hr] at hu
      have h1:=(List.getElem?_eq_some_iff.1 hr).1
      rw [List.length_range] at h1
      rw [List.getElem?_range h1] at hr
      injection hr with hr
      subst hr
      simp only [Option.map_some,Option.some.injEq] at hu
      have:=(hall j (by omega)).1
      rw [Gs.add_plain] at this
      rw [this,hu]
   . obtain ⟨h1,h2⟩:=hget j p hj
     subst h2
     exact ⟨V j,by rw [List.getElem?_map,List.getElem?_range h1];rfl,(hY j h1).1⟩
   . obtain ⟨h1,h2⟩:=hget j p hj
     subst h2
     rcases (hY j h1).2 with h | ⟨el,sp,h3,h4⟩
     . exact .inl h
     . exact .inr ⟨el,sp,by rw [<- h3];exact List.mem_map.2 ⟨j,List.mem_range.2 h1,rfl⟩,h4⟩
end Go.Proofs.YtllgglolcgdehaaGreatDoor
namespace Go.Proofs.YtllgglolcgdehaaGreatDoor
open Go.RowKit Go.Gs Go.ChangeShapes Go.WideShapes Go.ChangeAt
set_option linter.unusedVariables false
variable {H:Type} {enc:TypeId × Value->H} {W:World} {base:Nat} {held:Bool} {fuel:Nat} {x:DataW H × List MemPlace}
theorem four_fields {P:Program} {t:TypeId} {f0 f1 f2 f3:Field} {v0 v1 v2 v3:Value} (he:P.underlying t=some (.struct #[f0,f1,f2,f3])) (o0:f0.offset=0) (o1:f1.offset=1) (o2:f2.offset=2) (o3:f3.offset=3) (c0:P.cellsOf f0.type=1) (c1:P.cellsOf f1.type=1) (c2:P.cellsOf f2.type=1) (c3:P.cellsOf f3.type=1)
 (h:DataW.trod enc P W base (fun _=>true) held fuel t [v0,v1,v2,v3]=some x) :
 ∃ k y0 y1 y2 y3,DataW.trod enc P W base (fun _=>true) held k f0.type [v0]=some y0/\DataW.trod enc P W base (fun _=>true) held k f1.type [v1]=some y1/\DataW.trod enc P W base (fun _=>true) held k f2.type [v2]=some y2/\DataW.trod enc P W base (fun _=>true) held k f3.type [v3]=some y3:=by
 obtain ⟨xs,k,_,_,_,hxl,hf⟩:=DataW.trod_struct he h
 match xs,hxl with
 | [y0,y1,y2,y3],_=>
  have g0:=hf 0 f0 rfl
  have g1:=hf 1 f1 rfl
  have g2:=hf 2 f2 rfl
  have g3:=hf 3 f3 rfl
  simp [o0,o1,o2,o3,c0,c1,c2,c3] at g0 g1 g2 g3
  exact ⟨k,y0,y1,y2,y3,g0,g1,g2,g3⟩
theorem five_fields {P:Program} {t:TypeId} {f0 f1 f2 f3 f4:Field} {v0 v1 v2 v3 v4:Value} (he:P.underlying t=some (.struct #[f0,f1,f2,f3,f4])) (o0:f0.offset=0) (o1:f1.offset=1) (o2:f2.offset=2) (o3:f3.offset=3) (o4:f4.offset=4) (c0:P.cellsOf f0.type=1) (c1:P.cellsOf f1.type=1) (c2:P.cellsOf f2.type=1) (c3:P.cellsOf f3.type=1) (c4:P.cellsOf f4.type=1)
 (h:DataW.trod enc P W base (fun _=>true) held fuel t [v0,v1,v2,v3,v4]=some x) :
 ∃ k y0 y1 y2 y3 y4,DataW.trod enc P W base (fun _=>true) held k f0.type [v0]=some y0/\DataW.trod enc P W base (fun _=>true) held k f1.type [v1]=some y1/\DataW.trod enc P W base (fun _=>true) held k f2.type [v2]=some y2/\DataW.trod enc P W base (fun _=>true) held k f3.type [v3]=some y3/\DataW.trod enc P W base (fun _=>true) held k f4.type [v4]=some y4:=by
 obtain ⟨xs,k,_,_,_,hxl,hf⟩:=DataW.trod_struct he h
 match xs,hxl with
 | [y0,y1,y2,y3,y4],_=>
  have g0:=hf 0 f0 rfl
  have g1:=hf 1 f1 rfl
  have g2:=hf 2 f2 rfl
  have g3:=hf 3 f3 rfl
  have g4:=hf 4 f4 rfl
  simp [o0,o1,o2,o3,o4,c0,c1,c2,c3,c4] at g0 g1 g2 g3 g4
  exact ⟨k,y0,y1,y2,y3,y4,g0,g1,g2,g3,g4⟩
theorem four_of {cs:List Value} (h:cs.length=4):∃ v0 v1 v2 v3,cs=[v0,v1,v2,v3]:=by
 match cs,h with
 | [v0,v1,v2,v3],_=>exact ⟨v0,v1,v2,v3,rfl⟩
theorem five_of {cs:List Value} (h:cs.length=5):∃ v0 v1 v2 v3 v4,cs=[v0,v1,v2,v3,v4]:=by
 match cs,h with
 | [v0,v1,v2,v3,v4],_=>exact ⟨v0,v1,v2,v3,v4,rfl⟩
theorem slice_shape {P:Program} {t e:TypeId} {v:Value} (ht:P.underlying t=some (.slice e)) (hf:DataW.trod enc P W base (fun _=>true) held fuel t [v]=some x):∃ a l c,v=.slice a l c:=by
 rcases Deep.open_slice ht hf with ⟨h0,_⟩ | ⟨a,len,cap,m,n,D,Pl,hcs,_⟩
 . simp at h0
   exact ⟨none,0,0,h0⟩
 . simp at hcs
   exact ⟨some a,len,cap,hcs⟩
theorem blist_of_open {v:Value} (hf:DataW.trod enc Tryz.prog W base (fun _=>true) held fuel 74 [v]=some x):∃ (bss:List (List UInt8)) (a:Option Addr) (c:Nat),v=.slice a bss.length c/\RList W (.slice a bss.length c) U bss:=by
 obtain ⟨a,l,c,rfl⟩:=slice_shape Tryz.underlying74 hf
 obtain ⟨bss,h1,h2,_⟩:=lists_of_open Tryz.underlying74 Tryz.underlying28 Tryz.underlying5 (by kernel_rfl) (by kernel_rfl) hf
 subst h1
 exact ⟨bss,a,c,rfl,h2⟩
set_option maxRecDepth 100000 in
theorem pipe_of_open {cs:List Value} (hlen:cs.length=4) (h:DataW.trod enc Tryz.prog W base (fun _=>true) held fuel 66 cs=some x) :
 ∃ (p:SPipe) (ab:Option Addr) (cb:Nat),cs=[.slice ab p.b.length cb,.int .i64 p.room,.bool p.closed,.bool p.shut]/\Reads W (.slice ab p.b.length cb) p.b.length (p.b.map U):=by
 obtain ⟨v0,v1,v2,v3,rfl⟩:=four_of hlen
 obtain ⟨k,y0,y1,y2,y3,g0,g1,g2,g3⟩:=four_fields Tryz.underlying66 rfl rfl rfl rfl (by kernel_rfl) (by kernel_rfl) (by kernel_rfl) (by kernel_rfl) h
 obtain ⟨bs,ab,cb,rfl,hr,_⟩:=pbytes_of_open Tryz.underlying28 Tryz.underlying5 (by kernel_rfl) g0
 obtain ⟨rm,e1,_,_⟩:=DataW.trod_int Tryz.underlying3 g1
 obtain ⟨cl,e2,_⟩:=DataW.trod_bool Tryz.underlying4 g2
 obtain ⟨sh,e3,_⟩:=DataW.trod_bool Tryz.underlying4 g3
 simp only [List.cons.injEq,and_true] at e1 e2 e3
 exact ⟨⟨bs,rm,cl,sh⟩,ab,cb,by rw [e1,e2,e3],hr⟩
set_option maxRecDepth 100000 in
theorem proc_of_open {cs:List Value} (hlen:cs.length=5) (h:DataW.trod enc Tryz.prog W base (fun _=>true) held fuel 76 cs=some x) :
 ∃ (p:SProc) (ag ao:Option Addr) (cg co:Nat),cs=[.slice ag p.got.length cg,.int .i64 p.pos,.slice ao p.out.length co,.bool p.rd,.bool p.ov]/\RList W (.slice ag p.got.length cg) U p.got/\RList W (.slice ao p.out.length co) U p.out/\(Lit.int .i64 p.pos).wf=true:=by
 obtain ⟨v0,v1,v2,v3,v4,rfl⟩:=five_of hlen
 obtain ⟨k,y0,y1,y2,y3,y4,g0,g1,g2,g3,g4⟩:=five_fields Tryz.underlying76 rfl rfl rfl rfl rfl (by kernel_rfl) (by kernel_rfl) (by kernel_rfl) (by kernel_rfl) (by kernel_rfl) h
 obtain ⟨gs,ag,cg,rfl,hg⟩:=blist_of_open g0
 obtain ⟨ps,e1,_,hw⟩:=DataW.trod_int Tryz.underlying3 g1
 obtain ⟨os,ao,co,rfl,ho⟩:=blist_of_open g2
 obtain ⟨rd,e3,_⟩:=DataW.trod_bool Tryz.underlying4 g3
 obtain ⟨ov,e4,_⟩:=DataW.trod_bool Tryz.underlying4 g4
 simp only [List.cons.injEq,and_true] at e1 e3 e4
 exact ⟨⟨gs,ps,os,rd,ov⟩,ag,ao,cg,co,by rw [e1,e3,e4],hg,ho,hw⟩
theorem pipes_of_open {v:Value} (hf:DataW.trod enc Tryz.prog W base (fun _=>true) held fuel 26 [v]=some x):∃ xs:List SPipe,RPipes W v xs:=by
 rcases Deep.open_slice Tryz.underlying26 hf with ⟨h0,_⟩ | ⟨a,len,cap,m,n,D,Pl,hcs,hb,hl,hm,hmm,_,hx⟩
 . simp at h0
   subst h0
   exact ⟨[],none,0,rfl,Nat.le_refl _,by simp,fun h=>absurd rfl h⟩
 . simp at hcs
   subst hcs
   have hlm:len<=m:=by rw [hmm];split <;> omega
   have each:∀ i,i < len -> ∃ p:SPipe × Option Addr × Nat,(∀ (j:Nat) u,[Value.slice p.2.1 p.1.b.length p.2.2,.int .i64 p.1.room,.bool p.1.closed,.bool p.1.shut][j]? = some u->W.cell? (a.add (i*4+j))=some u)/\Reads W (.slice p.2.1 p.1.b.length p.2.2) p.1.b.length (p.1.b.map U):=by
    intro i hi
    obtain ⟨cs',h1,h2⟩:=hx i (by omega)
    rw [show Tryz.prog.cellsOf 66 = 4 by kernel_rfl] at h1
    obtain ⟨_,hlen,hcell⟩:=World.cells?_some h1
    obtain ⟨nn,ai,ci,rfl,hp⟩:=pipe_of_open hlen h2
    refine ⟨(nn,ai,ci),fun j u hj=>?_,hp⟩
    have hjl:j < 4:=by have:=(List.getElem?_eq_some_iff.1 hj).1;simpa using this
    have e:=hcell j hjl
    rw [Deep.add_add] at e
    rw [e]
    exact hj
   haveI:Inhabited (SPipe × Option Addr × Nat):=⟨(⟨[],0,false,false⟩,none,0)⟩
   obtain ⟨Y,hY⟩:=Deep.choose_lt each
   refine ⟨(List.range len).map (fun i=>(Y i).1),some a,cap,by simp,by simpa using hl,hm,fun h0=>?_⟩
   have h0':0 < len:=by
    rcases Nat.eq_zero_or_pos len with h | h
    . subst h;simp at h0
    . exact h
   have hspot:=spot_none ((hY 0 h0').1 0 _ rfl) rfl
   obtain ⟨b,off,spot⟩:=a
   simp only at hspot
   subst hspot
   refine ⟨b,off,rfl,fun j q hj=>?_⟩
   obtain ⟨h1,rfl⟩:=range_get hj
   obtain ⟨q0,q1⟩:=hY j h1
   have cell:∀ (k:Nat) u,[Value.slice (Y j).2.1 (Y j).1.b.length (Y j).2.2,.int .i64 (Y j).1.room,.bool (Y j).1.closed,.bool (Y j).1.shut][k]? = some u->W.cell? ⟨b,off+j*4+k,none⟩=some u:=by
    intro k u hu
    have:=q0 k u hu
    rw [add_plain4] at this
    rw [Nat.add_assoc]
    exact this
   exact ⟨(Y j).2.1,(Y j).2.2,cell 0 _ rfl,cell 1 _ rfl,cell 2 _ rfl,cell 3 _ rfl,q1⟩
theorem procs_of_open {v:Value} (hf:DataW.trod enc Tryz.prog W base (fun _=>true) held fuel 27 [v]=some x):∃ ps:List SProc,RProcs W v ps /\ ∀ p ∈ ps,(Lit.int .i64 p.pos).wf=true:=by
 rcases Deep.open_slice Tryz.underlying27 hf with ⟨h0,_⟩ | ⟨a,len,cap,m,n,D,Pl,hcs,hb,hl,hm,hmm,_,hx⟩
 . simp at h0
   subst h0
   exact ⟨[],⟨none,0,rfl,Nat.le_refl _,by simp,fun h=>absurd rfl h⟩,by simp⟩
 . simp at hcs
   subst hcs
   have hlm:len<=m:=by rw [hmm];split <;> omega
   have each:∀ i,i < len -> ∃ p:SProc × Option Addr × Option Addr × Nat × Nat,(∀ (j:Nat) u,[Value.slice p.2.1 p.1.got.length p.2.2.2.1,.int .i64 p.1.pos,.slice p.2.2.1 p.1.out.length p.2.2.2.2,.bool p.1.rd,.bool p.1.ov][j]? = some u->W.cell? (a.add (i*5+j))=some u)/\RList W (.slice p.2.1 p.1.got.length p.2.2.2.1) U p.1.got/\RList W (.slice p.2.2.1 p.1.out.length p.2.2.2.2) U p.1.out/\(Lit.int .i64 p.1.pos).wf=true:=by
    intro i hi
    obtain ⟨cs',h1,h2⟩:=hx i (by omega)
    rw [show Tryz.prog.cellsOf 76 = 5 by kernel_rfl] at h1
    obtain ⟨_,hlen,hcell⟩:=World.cells?_some h1
    obtain ⟨nn,ag,ao,cg,co,rfl,hp,hq,hw⟩:=proc_of_open hlen h2
    refine ⟨(nn,ag,ao,cg,co),fun j u hj=>?_,hp,hq,hw⟩
    have hjl:j < 5:=by have:=(List.getElem?_eq_some_iff.1 hj).1;simpa using this
    have e:=hcell j hjl
    rw [Deep.add_add] at e
    rw [e]
    exact hj
   haveI:Inhabited (SProc × Option Addr × Option Addr × Nat × Nat):=⟨(⟨[],0,[],false,false⟩,none,none,0,0)⟩
   obtain ⟨Y,hY⟩:=Deep.choose_lt each
   refine ⟨(List.range len).map (fun i=>(Y i).1),⟨some a,cap,by simp,by simpa using hl,hm,fun h0=>?_⟩,fun q hq=>?_⟩
   . have h0':0 < len:=by
      rcases Nat.eq_zero_or_pos len with h | h
      . subst h;simp at h0
      . exact h
     have hspot:=spot_none ((hY 0 h0').1 0 _ rfl) rfl
     obtain ⟨b,off,spot⟩:=a
     simp only at hspot
     subst hspot
     refine ⟨b,off,rfl,fun j q hj=>?_⟩
     obtain ⟨h1,rfl⟩:=range_get hj
     obtain ⟨q0,q1,q2,_⟩:=hY j h1
     have cell:∀ (k:Nat) u,[Value.slice (Y j).2.1 (Y j).1.got.length (Y j).2.2.2.1,.int .i64 (Y j).1.pos,.slice (Y j).2.2.1 (Y j).1.out.length (Y j).2.2.2.2,.bool (Y j).1.rd,.bool (Y j).1.ov][k]? = some u->W.cell? ⟨b,off+j*5+k,none⟩=some u:=by
      intro k u hu
      have:=q0 k u hu
      rw [add_plain4] at this
      rw [Nat.add_assoc]
      exact this
     exact ⟨(Y j).2.1,(Y j).2.2.2.1,(Y j).2.2.1,(Y j).2.2.2.2,cell 0 _ rfl,cell 1 _ rfl,cell 2 _ rfl,cell 3 _ rfl,cell 4 _ rfl,q1,q2⟩
   . obtain ⟨i,hi,rfl⟩:=List.mem_map.1 hq
     exact (hY i (List.mem_range.1 hi)).2.2.2
set_option maxRecDepth 100000 in
open Go.Joins in
theorem mach_of_open {r:Go.Reach} {b0:Nat} {v:Value} {d:DataW H} {p:List MemPlace} (hv:Value.okWide Tryz.prog W r b0 30 v) (h:DataW.Trod enc Tryz.prog W base (fun _=>true) held 30 v d p) :
 ∃ (M:SMach) (an af ax ap aS:Option Addr) (cn cf cx cp cs:Nat),v=machV an af ax ap aS M cn cf cx cp cs/\RMach W an af ax ap aS cn cf cx cp cs M/\FitsM M:=by
 obtain ⟨cs,rfl,hsz⟩:=okWide_struct Tryz.underlying30 hv
 obtain ⟨fuel,hf⟩:=h
 have h5:Tryz.prog.cellsOf 30 = 5:=by kernel_rfl
 have hlen:cs.toList.length=5:=by rw [Array.length_toList];exact hsz.trans h5
 obtain ⟨l⟩:=cs
 obtain ⟨v0,v1,v2,v3,v4,e⟩:=five_of hlen
 simp only at e
 subst e
 obtain ⟨k,y0,y1,y2,y3,y4,g0,g1,g2,g3,g4⟩:=five_fields Tryz.underlying30 rfl rfl rfl rfl rfl (by kernel_rfl) (by kernel_rfl) (by kernel_rfl) (by kernel_rfl) (by kernel_rfl) (show DataW.trod enc Tryz.prog W base (fun _=>true) held fuel 30 [v0,v1,v2,v3,v4]=_ from hf)
 obtain ⟨xs,k2,_,_,_,hxl,hg⟩:=DataW.trod_struct Tryz.underlying24 g0
 match xs,hxl with
 | [z0],_=>
  have m0:=hg 0 _ rfl
  simp at m0
  obtain ⟨ns,hns,hfn,_⟩:=nodes_of_open m0
  obtain ⟨fs,hfs,hff,_⟩:=files_of_open g1
  obtain ⟨ps,hps⟩:=pipes_of_open g2
  obtain ⟨qs,hqs,hqw⟩:=procs_of_open g3
  obtain ⟨sk,aS,cS,rfl,hsk,_⟩:=pbytes_of_open Tryz.underlying28 Tryz.underlying5 (by kernel_rfl) g4
  obtain ⟨an,cn,rfl,_,_⟩:=hns.shape
  obtain ⟨af,cf,rfl,k3⟩:=id hfs
  obtain ⟨ax,cx,rfl,k4⟩:=id hps
  obtain ⟨ap,cp,rfl,k5⟩:=id hqs
  exact ⟨⟨ns,fs,ps,qs,sk⟩,an,af,ax,ap,aS,cn,cf,cx,cp,cS,rfl,⟨hns,hfs,hps,hqs,hsk⟩,⟨hfn,hff,hqw⟩⟩
end Go.Proofs.YtllgglolcgdehaaGreatDoor
