/- Machines that can be read, and more. -/
import Derived.Laws.AppendOwn
import Derived.Laws.OwnMore
import Derived.Laws.CopyRow
import Derived.Deep.Slices
import Derived.Deep.AppendSrc
import Derived.Deep.Upon
import Derived.Test.YtllgglolcgdehaaGreatDoorXa00
namespace Go.Proofs.YtllgglolcgdehaaGreatDoor
open Go.RowKit Go.Gs
set_option linter.unusedVariables false
def RPipes (w:World) (v:Value) (xs:List SPipe):Prop:=
 ∃ao cap,v=.slice ao xs.length cap/\xs.length<=cap/\cap<=maxLen /\
  (xs.length≠0 -> ∃b off,ao=some ⟨b,off,none⟩ /\ ∀(j:Nat) (x:SPipe),xs[j]? = some x -> ∃ab cb,w.cell? ⟨b,off+j*4,none⟩=some (.slice ab x.b.length cb)/\w.cell? ⟨b,off+j*4+1,none⟩=some (.int .i64 x.room) /\
   w.cell? ⟨b,off+j*4+2,none⟩=some (.bool x.closed)/\w.cell? ⟨b,off+j*4+3,none⟩=some (.bool x.shut)/\Reads w (.slice ab x.b.length cb) x.b.length (x.b.map U))
theorem RPipes.below {w w':World} {v:Value} {xs:List SPipe} (h:RPipes w v xs) (hb:Below w.heap.size w w'):RPipes w' v xs:=by
 obtain⟨ao,cap,rfl,h2,h3,h4⟩:=h
 refine⟨ao,cap,rfl,h2,h3,fun hn=>?_⟩
 obtain⟨b,off,rfl,hc⟩:=h4 hn
 refine⟨b,off,rfl,fun j c hj=>?_⟩
 obtain⟨ab,cb,a0,a1,a2,a3,a4⟩:=hc j c hj
 exact⟨ab,cb,(hb.cell (bLt w _ a0)).trans a0,(hb.cell (bLt w _ a1)).trans a1,(hb.cell (bLt w _ a2)).trans a2,(hb.cell (bLt w _ a3)).trans a3,a4.below hb⟩
theorem RPipes.shape {w:World} {v:Value} {xs:List SPipe} (h:RPipes w v xs):∃ao cap,v=.slice ao xs.length cap/\xs.length<=cap/\cap<=maxLen:=by
 obtain⟨ao,cap,h1,h2,h3,_⟩:=h
 exact⟨ao,cap,h1,h2,h3⟩
theorem RPipes.at {w:World} {ao:Option Addr} {n cap:Nat} {xs:List SPipe} (h:RPipes w (.slice ao n cap) xs) {k:Nat} {x:SPipe} (hk:xs[k]? = some x) :
 ∃b off ab cb,ao=some ⟨b,off,none⟩/\w.cell? ⟨b,off+k*4,none⟩=some (.slice ab x.b.length cb)/\w.cell? ⟨b,off+k*4+1,none⟩=some (.int .i64 x.room) /\
  w.cell? ⟨b,off+k*4+2,none⟩=some (.bool x.closed)/\w.cell? ⟨b,off+k*4+3,none⟩=some (.bool x.shut)/\Reads w (.slice ab x.b.length cb) x.b.length (x.b.map U):=by
 obtain⟨ao',cap',e,_,_,h5⟩:=h
 injection e with e1 e2 e3
 subst e1
 obtain⟨hkl,_⟩:=gSm hk
 obtain⟨b,off,hao,hc⟩:=h5 (by omega)
 obtain⟨ab,cb,a⟩:=hc k x hk
 exact⟨b,off,ab,cb,hao,a⟩
theorem rpipes_le {w:World} {ao:Option Addr} {n cap:Nat} {xs:List SPipe} (h:RPipes w (.slice ao n cap) xs):n<=cap/\cap<=9223372036854775807:=by
 obtain⟨_,c,e,h1,h2⟩:=h.shape
 unfold maxLen at h2
 injection e with e1 e2 e3
 omega
def RProcs (w:World) (v:Value) (ps:List SProc):Prop:=
 ∃ao cap,v=.slice ao ps.length cap/\ps.length<=cap/\cap<=maxLen /\
  (ps.length≠0 -> ∃b off,ao=some ⟨b,off,none⟩ /\ ∀(j:Nat) (p:SProc),ps[j]? = some p -> ∃ag cg ab cb,w.cell? ⟨b,off+j*5,none⟩=some (.slice ag p.got.length cg)/\w.cell? ⟨b,off+j*5+1,none⟩=some (.int .i64 p.pos) /\
   w.cell? ⟨b,off+j*5+2,none⟩=some (.slice ab p.out.length cb)/\w.cell? ⟨b,off+j*5+3,none⟩=some (.bool p.rd)/\w.cell? ⟨b,off+j*5+4,none⟩=some (.bool p.ov)/\RList w (.slice ag p.got.length cg) U p.got/\RList w (.slice ab p.out.length cb) U p.out)
theorem RProcs.below {w w':World} {v:Value} {ps:List SProc} (h:RProcs w v ps) (hb:Below w.heap.size w w'):RProcs w' v ps:=by
 obtain⟨ao,cap,rfl,h2,h3,h4⟩:=h
 refine⟨ao,cap,rfl,h2,h3,fun hn=>?_⟩
 obtain⟨b,off,rfl,hc⟩:=h4 hn
 refine⟨b,off,rfl,fun j c hj=>?_⟩
 obtain⟨ag,cg,ab,cb,a0,a1,a2,a3,a4,a5,a6⟩:=hc j c hj
 exact⟨ag,cg,ab,cb,(hb.cell (bLt w _ a0)).trans a0,(hb.cell (bLt w _ a1)).trans a1,(hb.cell (bLt w _ a2)).trans a2,(hb.cell (bLt w _ a3)).trans a3,(hb.cell (bLt w _ a4)).trans a4,a5.below hb,a6.below hb⟩
theorem RProcs.shape {w:World} {v:Value} {ps:List SProc} (h:RProcs w v ps):∃ao cap,v=.slice ao ps.length cap/\ps.length<=cap/\cap<=maxLen:=by
 obtain⟨ao,cap,h1,h2,h3,_⟩:=h
 exact⟨ao,cap,h1,h2,h3⟩
theorem RProcs.at {w:World} {ao:Option Addr} {n cap:Nat} {ps:List SProc} (h:RProcs w (.slice ao n cap) ps) {k:Nat} {p:SProc} (hk:ps[k]? = some p) :
 ∃b off ag cg ab cb,ao=some ⟨b,off,none⟩/\w.cell? ⟨b,off+k*5,none⟩=some (.slice ag p.got.length cg)/\w.cell? ⟨b,off+k*5+1,none⟩=some (.int .i64 p.pos) /\
  w.cell? ⟨b,off+k*5+2,none⟩=some (.slice ab p.out.length cb)/\w.cell? ⟨b,off+k*5+3,none⟩=some (.bool p.rd)/\w.cell? ⟨b,off+k*5+4,none⟩=some (.bool p.ov)/\RList w (.slice ag p.got.length cg) U p.got/\RList w (.slice ab p.out.length cb) U p.out:=by
 obtain⟨ao',cap',e,_,_,h5⟩:=h
 injection e with e1 e2 e3
 subst e1
 obtain⟨hkl,_⟩:=gSm hk
 obtain⟨b,off,hao,hc⟩:=h5 (by omega)
 obtain⟨ag,cg,ab,cb,a⟩:=hc k p hk
 exact⟨b,off,ag,cg,ab,cb,hao,a⟩
theorem rprocs_le {w:World} {ao:Option Addr} {n cap:Nat} {ps:List SProc} (h:RProcs w (.slice ao n cap) ps):n<=cap/\cap<=9223372036854775807:=by
 obtain⟨_,c,e,h1,h2⟩:=h.shape
 unfold maxLen at h2
 injection e with e1 e2 e3
 omega
def machV (an af ax ap aS:Option Addr) (M:SMach) (cn cf cx cp cs:Nat):Value:=.agg #[.slice an M.ns.length cn,.slice af M.fs.length cf,.slice ax M.pipes.length cx,.slice ap M.ps.length cp,.slice aS M.sunk.length cs]
structure RMach (w:World) (an af ax ap aS:Option Addr) (cn cf cx cp cs:Nat) (M:SMach):Prop where
 nodes:RNodes w (.slice an M.ns.length cn) M.ns
 files:RFiles w (.slice af M.fs.length cf) M.fs
 pipes:RPipes w (.slice ax M.pipes.length cx) M.pipes
 procs:RProcs w (.slice ap M.ps.length cp) M.ps
 sunk:Reads w (.slice aS M.sunk.length cs) M.sunk.length (M.sunk.map U)
theorem RMach.below {w w':World} {an af ax ap aS:Option Addr} {cn cf cx cp cs:Nat} {M:SMach} (h:RMach w an af ax ap aS cn cf cx cp cs M) (hb:Below w.heap.size w w'):RMach w' an af ax ap aS cn cf cx cp cs M:=
 ⟨h.nodes.below hb,h.files.below hb,h.pipes.below hb,h.procs.below hb,h.sunk.below hb⟩
structure FitsM (M:SMach):Prop where
 nodes:∀n∈M.ns,FitsN n
 files:∀f∈M.fs,FitsF f
 pos:∀p∈M.ps,(Lit.int .i64 p.pos).wf=true
theorem rlist_le {w:World} {ao:Option Addr} {n cap:Nat} {pss:List (List UInt8)} (h:RList w (.slice ao n cap) U pss):n=pss.length/\n<=cap/\cap<=9223372036854775807:=by
 obtain⟨_,c,e,h1,h2⟩:=h.shape
 unfold maxLen at h2
 injection e with e1 e2 e3
 omega
end Go.Proofs.YtllgglolcgdehaaGreatDoor
namespace Go.Gs
open Go.RowKit
set_option linter.unusedVariables false
abbrev FRow:=SFile × (Option Addr × Nat × Nat)
def encF (x:FRow):List Value:=[.string ⟨x.1.name.toArray⟩,.slice x.2.1 x.2.2.1 x.2.2.2]
def rowCells (out:List FRow):List Value:=(out.map encF).flatten
theorem rowCells_cons (out:List FRow) (r:FRow):rowCells (r::out)=encF r++rowCells out:=by simp[rowCells]
theorem rowCells_length (out:List FRow):(rowCells out).length=out.length*2:=by
 induction out with
 | nil=>rfl
 | cons r l ih=>
  rw[rowCells_cons,List.length_append,ih]
  simp[encF]
  omega
theorem rowCells_at:∀(out:List FRow) (j:Nat) (r:FRow),out[j]? = some r->(rowCells out)[j*2]? = some (.string ⟨r.1.name.toArray⟩)/\(rowCells out)[j*2+1]? = some (.slice r.2.1 r.2.2.1 r.2.2.2)
 | [],j,r,h=>by simp at h
 | d::l,0,r,h=>by
  simp at h;subst h
  simp[rowCells,encF]
 | d::l,j+1,r,h=>by
  have ih:=rowCells_at l j r (by simpa using h)
  rw[rowCells_cons]
  refine⟨?_,?_⟩
  . rw[List.getElem?_append_right (by simp[encF];omega),show (j+1)*2-(encF d).length=j*2 by simp[encF];omega]
    exact ih.1
  . rw[List.getElem?_append_right (by simp[encF];omega),show (j+1)*2+1-(encF d).length=j*2+1 by simp[encF];omega]
    exact ih.2
theorem encF_one (r:FRow):∀u∈encF r,u.oneCell'=true:=by
 intro u hu
 simp[encF] at hu
 rcases hu with rfl | rfl <;> rfl
theorem rowCells_one (out:List FRow):∀u∈rowCells out,u.oneCell'=true:=by
 intro u hu
 unfold rowCells at hu
 rw[List.mem_flatten] at hu
 obtain⟨l,hl,hul⟩:=hu
 obtain⟨r,_,rfl⟩:=List.mem_map.1 hl
 exact encF_one r u hul
theorem rowCells_set:∀(out:List FRow) (j:Nat) (r r':FRow),out[j]? = some r->r'.1.name=r.1.name->rowCells (out.set j r')=(rowCells out).set (j*2+1) (.slice r'.2.1 r'.2.2.1 r'.2.2.2)
 | [],j,r,r',h,_=>by simp at h
 | d::l,0,r,r',h,hn=>by
  simp at h;subst h
  simp[rowCells,encF,hn]
 | d::l,j+1,r,r',h,hn=>by
  rw[List.set_cons_succ,rowCells_cons,rowCells_cons,rowCells_set l j r r' (by simpa using h) hn,List.set_append_right _ _ (by simp[encF];omega),show (j+1)*2+1-(encF d).length=j*2+1 by simp[encF];omega]
theorem rows_cells {w:World} {b off:Nat}:∀{rows:List FRow},(∀(j:Nat) (r:FRow),rows[j]? = some r->w.cell? ⟨b,off+j*2,none⟩=some (.string ⟨r.1.name.toArray⟩)/\w.cell? ⟨b,off+j*2+1,none⟩=some (.slice r.2.1 r.2.2.1 r.2.2.2)) -> ∀j u,(rowCells rows)[j]? = some u->w.cell? ⟨b,off+j,none⟩=some u:=by
 intro rows h j u hu
 have hl:j<(rowCells rows).length:=(gSm hu).1
 rw[rowCells_length] at hl
 have hq:rows[j / 2]? = some (rows[j / 2]'(by omega)):=gEl _
 obtain⟨a1,a2⟩:=rowCells_at rows (j / 2) _ hq
 obtain⟨b1,b2⟩:=h (j / 2) _ hq
 rcases Nat.mod_two_eq_zero_or_one j with hm | hm
 . have e:j=j / 2*2:=by omega
   rw[<- e] at a1 b1
   rw[a1] at hu
   rw[b1,hu]
 .
  have e:j=j / 2*2+1:=by omega
  rw[<- e] at a2
  rw[Nat.add_assoc,<- e] at b2
  rw[a2] at hu
  rw[b2,hu]
def GoodO (w:World) (go:Option Nat) (r:FRow):Prop:=r.2.2.1=r.1.b.length/\Reads w (.slice r.2.1 r.2.2.1 r.2.2.2) r.1.b.length (r.1.b.map U)/\(r.1.b.length≠0 -> ∀a,r.2.1=some a->go≠some a.block)
theorem reads_keepO {w w':World} {ao:Option Addr} {n m cap:Nat} {xs:List Value} (h:Reads w (.slice ao n cap) m xs) (hk:∀a,ao=some a->w'.heap[a.block]? = w.heap[a.block]?):Reads w' (.slice ao n cap) m xs:=by
 obtain⟨h1,ao',cap',e,h2,h3,h4⟩:=h
 injection e with e1 e2 e3
 subst e1 e2 e3
 refine⟨h1,ao,cap,rfl,h2,h3,fun hn=>?_⟩
 obtain⟨b,off,rfl,hc⟩:=h4 hn
 refine⟨b,off,rfl,fun j u hu=>?_⟩
 have e:=hk _ rfl
 have:=hc j u hu
 simp only[World.cell?] at this ⊢
 rw[e];exact this
theorem GoodO.keep {w w':World} {go:Option Nat} {r:FRow} (h:GoodO w go r) (hk:∀k,k<w.heap.size->go≠some k->w'.heap[k]? = w.heap[k]?):GoodO w' go r:=by
 refine⟨h.1,?_,h.2.2⟩
 by_cases h0:r.1.b.length=0
 . obtain⟨h1,ao,cap,e,h2,h3,h4⟩:=h.2.1
   exact⟨h1,ao,cap,e,h2,h3,fun hn=>absurd h0 hn⟩
 .
  refine reads_keepO h.2.1 (fun a ha=>hk _ ?_ (h.2.2 h0 a ha))
  obtain⟨h1,ao,cap,e,h2,h3,h4⟩:=h.2.1
  obtain⟨b,off,rfl,hc⟩:=h4 h0
  injection e with e1 e2 e3
  rw[e1] at ha
  injection ha with ha
  subst ha
  have hl:0<(r.1.b.map U).length:=by rw[h1];omega
  exact bLt w _ (hc 0 _ (gEl hl))
structure FO (w:World) (B:Nat) (e:TypeId) (v:Value) (rows:List FRow):Prop where
 own:w.ownsRow B e 2 v rows.length (rowCells rows)
 good:∀r∈rows,GoodO w v.ownBlock r
theorem FO.files {w:World} {B:Nat} {e:TypeId} {v:Value} {rows:List FRow} (h:FO w B e v rows):RFiles w v (rows.map (·.1)):=by
 have hl:(rows.map (·.1)).length=rows.length:=List.length_map _
 rcases h.own.2 with ⟨rfl,h0⟩ | ⟨g,cap,cur,rfl,hb,hg,h1,h2,h3,h4⟩
 . exact⟨none,0,by rw[hl,h0],by omega,by simp[maxLen],fun hn=>absurd (hl.trans h0) hn⟩
 .
  refine⟨_,cap,by rw[hl],by omega,h2,fun _=>⟨g,0,rfl,fun j f hj=>?_⟩⟩
  rw[List.getElem?_map] at hj
  cases hr:rows[j]? with
  | none=>rw[hr] at hj;cases hj
  | some r=>
   rw[hr] at hj
   simp only[Option.map_some,Option.some.injEq] at hj
   subst hj
   obtain⟨a1,a2⟩:=rowCells_at rows j r hr
   have hjl:j<rows.length:=(gSm hr).1
   have c1:=h.own.cellAt (j*2) (by omega)
   have c2:=h.own.cellAt (j*2+1) (by omega)
   rw[a1] at c1
   rw[a2] at c2
   exact⟨_,by rw[Nat.zero_add];exact c1,by rw[Nat.zero_add];exact c2,(h.good r (mGt hr)).2.1⟩
theorem owns_set {w:World} {B:Nat} {e:TypeId} {size g n cap:Nat} {xs:List Value} (h:w.ownsRow B e size (.slice (some ⟨g,0,none⟩) n cap) n xs) (j:Nat) (hj:j<n*size) (u:Value):(w.setCell ⟨g,j,none⟩ u).ownsRow B e size (.slice (some ⟨g,0,none⟩) n cap) n (xs.set j u):=by
 obtain⟨h1,h2⟩:=h
 refine⟨by rw[List.length_set];exact h1,?_⟩
 rcases h2 with ⟨h2,_⟩ | ⟨g',cap',cur,h2,hb,hg,h3,h4,h5,h6⟩
 . cases h2
 .
  injection h2 with e1 e2 e3
  injection e1 with e1
  injection e1 with e1
  subst e1 e3
  refine .inr ⟨g,cap,cur.setIfInBounds j u,rfl,hb,?_,h3,h4,by simpa using h5,?_⟩
  . rw[setCell_eq_setRow w g j cur e (0,0) u hg]
    exact setRow_heap w g cur _ e _ hg
  . rw[Array.toList_setIfInBounds,List.take_set,h6]
theorem FO.set {w:World} {B:Nat} {e:TypeId} {g n cap:Nat} {rows:List FRow} (h:FO w B e (.slice (some ⟨g,0,none⟩) n cap) rows) {k:Nat} {r r':FRow} (hk:rows[k]? = some r) (hn:r'.1.name=r.1.name) (hr:GoodO w (some g) r') :
 FO (w.setCell ⟨g,k*2+1,none⟩ (.slice r'.2.1 r'.2.2.1 r'.2.2.2)) B e (.slice (some ⟨g,0,none⟩) n cap) (rows.set k r'):=by
 have hkl:k<rows.length:=(gSm hk).1
 have hnn:n=rows.length:=by
  rcases h.own.2 with ⟨h2,_⟩ | ⟨_,_,_,h2,_⟩
  . cases h2
  . injection h2
 subst hnn
 refine⟨?_,fun x hx=>?_⟩
 . rw[List.length_set,rowCells_set rows k r r' hk hn]
   exact owns_set h.own _ (by omega) _
 . have hkeep:∀q,q<w.heap.size->some g≠some q->(w.setCell ⟨g,k*2+1,none⟩ (.slice r'.2.1 r'.2.2.1 r'.2.2.2)).heap[q]? = w.heap[q]?:=fun q _ hq=>Below.heap_setCell _ _ _ _ (fun e=>hq (by rw[e]))
   rcases List.mem_or_eq_of_mem_set hx with hx | rfl
   . exact (h.good x hx).keep hkeep
   . exact hr.keep hkeep
end Go.Gs
namespace Go.Proofs.YtllgglolcgdehaaGreatDoor
open Go.RowKit Go.Gs
set_option linter.unusedVariables false
abbrev Own:=Unit ⊕ Unit ⊕ Unit ⊕ Nat ⊕ Nat ⊕ Nat ⊕ (Nat × Nat) ⊕ (Nat × Nat) ⊕ Unit ⊕ Unit
abbrev Own.box:Own:=.inl ()
abbrev Own.pipes:Own:=.inr (.inl ())
abbrev Own.procs:Own:=.inr (.inr (.inl ()))
abbrev Own.gots (i:Nat):Own:=.inr (.inr (.inr (.inl i)))
abbrev Own.outs (i:Nat):Own:=.inr (.inr (.inr (.inr (.inl i))))
abbrev Own.pipe (q:Nat):Own:=.inr (.inr (.inr (.inr (.inr (.inl q)))))
abbrev Own.got (i j:Nat):Own:=.inr (.inr (.inr (.inr (.inr (.inr (.inl (i,j)))))))
abbrev Own.out (i k:Nat):Own:=.inr (.inr (.inr (.inr (.inr (.inr (.inr (.inl (i,k))))))))
abbrev Own.sunk:Own:=.inr (.inr (.inr (.inr (.inr (.inr (.inr (.inr (.inl ()))))))))
abbrev Own.aux:Own:=.inr (.inr (.inr (.inr (.inr (.inr (.inr (.inr (.inr ()))))))))
theorem Own.elimE {motive:Own->Prop} (box:motive Own.box) (pipes:motive Own.pipes) (procs:motive Own.procs) (gots:∀i,motive (Own.gots i)) (outs:∀i,motive (Own.outs i)) (pipe:∀q,motive (Own.pipe q)) (got:∀i j,motive (Own.got i j)) (out:∀i k,motive (Own.out i k)) (sunk:motive Own.sunk) (aux:motive Own.aux):∀o,motive o
 | .inl ()=>box
 | .inr (.inl ())=>pipes
 | .inr (.inr (.inl ()))=>procs
 | .inr (.inr (.inr (.inl i)))=>gots i
 | .inr (.inr (.inr (.inr (.inl i))))=>outs i
 | .inr (.inr (.inr (.inr (.inr (.inl q)))))=>pipe q
 | .inr (.inr (.inr (.inr (.inr (.inr (.inl (i,j)))))))=>got i j
 | .inr (.inr (.inr (.inr (.inr (.inr (.inr (.inl (i,k))))))))=>out i k
 | .inr (.inr (.inr (.inr (.inr (.inr (.inr (.inr (.inl ()))))))))=>sunk
 | .inr (.inr (.inr (.inr (.inr (.inr (.inr (.inr (.inr ()))))))))=>aux
abbrev Sl:=Option Addr × Nat
def sl (b:List UInt8) (s:Sl):Value:=.slice s.1 b.length s.2
def nilS:Sl:=(none,0)
def ROf (w:World) (O:Nat->Option Own) (o:Own) (s:Sl) (b:List UInt8):Prop:=
 Reads w (sl b s) b.length (b.map U)/\(s.1=none->s.2=0)/\(b≠[] -> ∀a,s.1=some a->O a.block=some o)
def SOf (w:World) (O:Nat->Option Own) (o:Own) (s:Sl) (b:List UInt8):Prop:=
 (s=nilS/\b=[]) \/ ∃g off cur,s.1=some ⟨g,off,none⟩/\O g=some o/\w.heap[g]? = some (.cells cur 5 (0,0))/\b.length<=s.2/\s.2<=maxLen/\off+s.2<=cur.size/\(cur.toList.drop off).take b.length=b.map U
theorem SOf.nil (w:World) (O:Nat->Option Own) (o:Own):SOf w O o nilS []:=.inl ⟨rfl,rfl⟩
theorem SOf.reads {w:World} {O:Nat->Option Own} {o:Own} {s:Sl} {b:List UInt8} (h:SOf w O o s b):Reads w (sl b s) b.length (b.map U):=by
 rcases h with ⟨rfl,rfl⟩ | ⟨g,off,cur,hs,ho,hg,h1,h2,h3,h4⟩
 . exact⟨rfl,none,0,rfl,Nat.le_refl _,by simp[maxLen],fun h=>absurd rfl h⟩
 .
  refine⟨by simp,s.1,s.2,rfl,h1,h2,fun hn=>⟨g,off,hs,fun j u hu=>?_⟩⟩
  rw[cell_of_row _ _ _ _ _ _ hg]
  rw[<- h4,List.getElem?_take] at hu
  split at hu
  . rw[List.getElem?_drop] at hu
    simpa using hu
  . cases hu
theorem SOf.keep {w w':World} {O O':Nat->Option Own} {o:Own} {s:Sl} {b:List UInt8} (h:SOf w O o s b) (hk:∀k,O k=some o->w'.heap[k]? = w.heap[k]?) (hO:∀k,k<w.heap.size->O' k=O k):SOf w' O' o s b:=by
 rcases h with h | ⟨g,off,cur,hs,ho,hg,h1⟩
 . exact .inl h
 . exact .inr ⟨g,off,cur,hs,(hO g (aSm hg).1).trans ho,(hk g ho).trans hg,h1⟩
theorem SOf.drop {w:World} {O:Nat->Option Own} {o:Own} {s:Sl} {b:List UInt8} (h:SOf w O o s b) {g off:Nat} (hs:s.1=some ⟨g,off,none⟩) {n:Nat} (hn:n<=b.length) (s':Sl) (hs':s'=(some ⟨g,off+n,none⟩,s.2-n)\/(s'=(some ⟨g,off,none⟩,0)/\n=s.2)):SOf w O o s' (b.drop n):=by
 rcases h with ⟨rfl,rfl⟩ | ⟨g',off',cur,hs2,ho,hg,h1,h2,h3,h4⟩
 . cases hs
 .
  rw[hs] at hs2
  injection hs2 with hs2
  injection hs2 with e1 e2
  subst e1 e2
  refine .inr ?_
  rcases hs' with rfl | ⟨rfl,hn2⟩
  . refine⟨g,off+n,cur,rfl,ho,hg,by rw[List.length_drop];show _<=s.2-n;omega,by show s.2-n<=_;omega,by show off+n+(s.2-n)<=_;omega,?_⟩
    rw[List.map_drop,<- h4,<- List.drop_drop,List.length_drop,List.drop_take]
  . refine⟨g,off,cur,rfl,ho,hg,by rw[List.length_drop];show _<=0;omega,Nat.zero_le _,by show off+0<=_;omega,?_⟩
    have:b.drop n=[]:=List.drop_of_length_le (by omega)
    rw[this]
    simp
theorem SOf.of_owns {w:World} {O:Nat->Option Own} {o:Own} {B:Nat} {v:Value} {b:List UInt8} (h:w.ownsRow B 5 1 v b.length (b.map U)) (hO:∀g,v.ownBlock=some g->O g=some o):∃s,v=sl b s/\SOf w O o s b /\ ∀a,s.1=some a->v.ownBlock=some a.block:=by
 rcases h.2 with ⟨rfl,h0⟩ | ⟨g,cap,cur,rfl,hb,hg,h1,h2,h3,h4⟩
 . have:b=[]:=List.length_eq_zero_iff.1 h0
   subst this
   exact⟨nilS,rfl,SOf.nil _ _ _,fun a h=>by cases h⟩
 . refine⟨(some ⟨g,0,none⟩,cap),rfl,.inr ⟨g,0,cur,rfl,hO g rfl,hg,h1,h2,by show 0+cap<=_;omega,?_⟩,fun a h=>by injection h with h;subst h;rfl⟩
   rw[List.drop_zero]
   simpa using h4
theorem ROf.keep {w w':World} {O O':Nat->Option Own} {o:Own} {s:Sl} {b:List UInt8} (h:ROf w O o s b) (hk:∀k,O k=some o->w'.heap[k]? = w.heap[k]?) (hO:∀k o,O k=some o->O' k=O k):ROf w' O' o s b:=by
 refine⟨?_,h.2.1,fun hn a ha=>(hO _ _ (h.2.2 hn a ha)).trans (h.2.2 hn a ha)⟩
 by_cases h0:b=[]
 . subst h0
   obtain⟨h1,ao,cap,e,h2,h3,h4⟩:=h.1
   exact⟨h1,ao,cap,e,h2,h3,fun hn=>absurd rfl hn⟩
 . exact reads_keepO h.1 (fun a ha=>hk _ (h.2.2 h0 a ha))
theorem ROf.nil (w:World) (O:Nat->Option Own) (o:Own):ROf w O o nilS []:=⟨⟨rfl,none,0,rfl,Nat.le_refl _,by simp[maxLen],fun h=>absurd rfl h⟩,fun _=>rfl,fun h=>absurd rfl h⟩
theorem flat_at {k:Nat}:∀(rows:List (List Value)) (j:Nat) (row:List Value),(∀r∈rows,r.length=k)->rows[j]? = some row -> ∀i,i<k->rows.flatten[j*k+i]? = row[i]?
 | [],j,row,_,h,i,_=>by simp at h
 | d::l,0,row,hl,h,i,hi=>by
  simp at h;subst h
  rw[List.flatten_cons,List.getElem?_append_left (by rw[hl d (by simp)];omega)]
  simp
 | d::l,j+1,row,hl,h,i,hi=>by
  have hd:=hl d (by simp)
  rw[List.flatten_cons,List.getElem?_append_right (by rw[hd,Nat.add_mul];omega),hd,show (j+1)*k+i-k=j*k+i by rw[Nat.add_mul];omega]
  exact flat_at l j row (fun r hr=>hl r (by simp[hr])) (by simpa using h) i hi
theorem flat_set {k:Nat}:∀(rows:List (List Value)) (j:Nat) (row:List Value),(∀r∈rows,r.length=k)->rows[j]? = some row -> ∀i u,i<k->rows.flatten.set (j*k+i) u=(rows.set j (row.set i u)).flatten
 | [],j,row,_,h,i,u,_=>by simp at h
 | d::l,0,row,hl,h,i,u,hi=>by
  simp at h;subst h
  rw[List.flatten_cons,List.set_append_left _ _ (by rw[hl d (by simp)];omega)]
  simp
 | d::l,j+1,row,hl,h,i,u,hi=>by
  have hd:=hl d (by simp)
  rw[List.flatten_cons,List.set_append_right _ _ (by rw[hd,Nat.add_mul];omega),hd,show (j+1)*k+i-k=j*k+i by rw[Nat.add_mul];omega,flat_set l j row (fun r hr=>hl r (by simp[hr])) (by simpa using h) i u hi]
  simp
theorem flat_len {k:Nat}:∀(rows:List (List Value)),(∀r∈rows,r.length=k)->rows.flatten.length=rows.length*k
 | [],_=>by simp
 | d::l,hl=>by
  rw[List.flatten_cons,List.length_append,hl d (by simp),flat_len l (fun r hr=>hl r (by simp[hr])),List.length_cons,Nat.add_mul]
  omega
theorem zip_at {α β γ:Type} {f:α->β->γ} {xs:List α} {ys:List β} {j:Nat} {x:α} {y:β} (hx:xs[j]? = some x) (hy:ys[j]? = some y):(List.zipWith f xs ys)[j]? = some (f x y):=by
 rw[List.getElem?_zipWith,hx,hy]
theorem zip_set {α β γ:Type} {f:α->β->γ}:∀(xs:List α) (ys:List β) (j:Nat) (x:α) (y:β),(List.zipWith f xs ys).set j (f x y)=List.zipWith f (xs.set j x) (ys.set j y)
 | [],ys,j,x,y=>by simp
 | a::xs,[],j,x,y=>by simp
 | a::xs,b::ys,0,x,y=>by simp
 | a::xs,b::ys,j+1,x,y=>by simp[zip_set xs ys j x y]
def pipeRow (x:SPipe) (s:Sl):List Value:=[sl x.b s,.int .i64 x.room,.bool x.closed,.bool x.shut]
def pipeRows (xs:List SPipe) (X:List Sl):List (List Value):=List.zipWith pipeRow xs X
theorem pipeRows_len (xs:List SPipe) (X:List Sl):∀r∈pipeRows xs X,r.length=4:=by
 intro r hr
 obtain⟨i,hi⟩:=List.getElem?_of_mem hr
 unfold pipeRows at hi
 obtain⟨x,y,_,_,e⟩:=List.getElem?_zipWith_eq_some.1 hi
 rw[<- e];rfl
structure PSlot where
 gv:Value
 ov:Value
 gs:List Sl
 os:List Sl
def procRow (p:SProc) (s:PSlot):List Value:=[s.gv,.int .i64 p.pos,s.ov,.bool p.rd,.bool p.ov]
def procRows (ps:List SProc) (P:List PSlot):List (List Value):=List.zipWith procRow ps P
theorem procRows_len (ps:List SProc) (P:List PSlot):∀r∈procRows ps P,r.length=5:=by
 intro r hr
 obtain⟨i,hi⟩:=List.getElem?_of_mem hr
 unfold procRows at hi
 obtain⟨x,y,_,_,e⟩:=List.getElem?_zipWith_eq_some.1 hi
 rw[<- e];rfl
def slRow (l:List (List UInt8)) (ss:List Sl):List Value:=List.zipWith sl l ss
structure RD where
 M:SMach
 vN:Value
 vF:Value
 vX:Value
 vP:Value
 vI:Value
 vM:Value
 sS:Sl
 X:List Sl
 P:List PSlot
def OwnedBy (O:Nat->Option Own) (v:Value) (o:Own):Prop:=∀g,v.ownBlock=some g->O g=some o
def Part (w:World) (D r:Nat) (O:Nat->Option Own) (A:World->(Nat->Option Own)->Prop) (d:RD):Own->Prop
 | .inl ()=>w.heap[r]? = some (.cells #[d.vN,d.vF,d.vX,d.vP,sl d.M.sunk d.sS,d.vI,d.vM] 111 (0,0))/\O r=some .box
 | .inr (.inl ())=>w.ownsRow D 66 4 d.vX d.M.pipes.length (pipeRows d.M.pipes d.X).flatten/\OwnedBy O d.vX .pipes
 | .inr (.inr (.inl ()))=>w.ownsRow D 76 5 d.vP d.M.ps.length (procRows d.M.ps d.P).flatten/\OwnedBy O d.vP .procs
 | .inr (.inr (.inr (.inl i)))=>∀p s,d.M.ps[i]? = some p->d.P[i]? = some s->w.ownsRow D 28 1 s.gv p.got.length (slRow p.got s.gs)/\OwnedBy O s.gv (.gots i)
 | .inr (.inr (.inr (.inr (.inl i))))=>∀p s,d.M.ps[i]? = some p->d.P[i]? = some s->w.ownsRow D 28 1 s.ov p.out.length (slRow p.out s.os)/\OwnedBy O s.ov (.outs i)
 | .inr (.inr (.inr (.inr (.inr (.inl q)))))=>∀x s,d.M.pipes[q]? = some x->d.X[q]? = some s->ROf w O (.pipe q) s x.b
 | .inr (.inr (.inr (.inr (.inr (.inr (.inl (i,j)))))))=>∀p s b a,d.M.ps[i]? = some p->d.P[i]? = some s->p.got[j]? = some b->s.gs[j]? = some a->SOf w O (.got i j) a b
 | .inr (.inr (.inr (.inr (.inr (.inr (.inr (.inl (i,k))))))))=>∀p s b a,d.M.ps[i]? = some p->d.P[i]? = some s->p.out[k]? = some b->s.os[k]? = some a->SOf w O (.out i k) a b
 | .inr (.inr (.inr (.inr (.inr (.inr (.inr (.inr (.inl ()))))))))=>SOf w O .sunk d.sS d.M.sunk
 | .inr (.inr (.inr (.inr (.inr (.inr (.inr (.inr (.inr ()))))))))=>A w O
def AuxOk (A:World->(Nat->Option Own)->Prop):Prop:=∀(w w':World) (O O':Nat->Option Own),A w O->(∀k,O k=some .aux->w'.heap[k]? = w.heap[k]?)->(∀k o,O k=some o->O' k=O k)->A w' O'
theorem ownsRow_keep {w w':World} {B:Nat} {e:TypeId} {size n:Nat} {v:Value} {xs:List Value} (h:w.ownsRow B e size v n xs) (hk:∀g,v.ownBlock=some g->w'.heap[g]? = w.heap[g]?):w'.ownsRow B e size v n xs:=by
 refine⟨h.1,?_⟩
 rcases h.2 with h0 | ⟨g,cap,cur,e1,hb,h1,h2⟩
 . exact .inl h0
 . refine .inr ⟨g,cap,cur,e1,hb,?_,h2⟩
   rw[hk g (by rw[e1];rfl)]
   exact h1
theorem Part.keep {w w':World} {D r:Nat} {O O':Nat->Option Own} {A:World->(Nat->Option Own)->Prop} (hA:AuxOk A) {d:RD} {o:Own} (h:Part w D r O A d o) (hk:∀k,O k=some o->w'.heap[k]? = w.heap[k]?) (hO:∀k o,O k=some o->O' k=O k) (hlo:∀k o,O k=some o->k<w.heap.size) (hO2:∀k,k<w.heap.size->O' k=O k):Part w' D r O' A d o:=by
 have hown:∀v:Value,OwnedBy O v o->OwnedBy O' v o:=fun v hv g hg=>(hO _ _ (hv g hg)).trans (hv g hg)
 cases o using Own.elimE with
 | box=>exact⟨(hk r h.2).trans h.1,(hO _ _ h.2).trans h.2⟩
 | pipes=>exact⟨ownsRow_keep h.1 (fun g hg=>hk g (h.2 g hg)),hown _ h.2⟩
 | procs=>exact⟨ownsRow_keep h.1 (fun g hg=>hk g (h.2 g hg)),hown _ h.2⟩
 | gots i=>exact fun p s hp hs=>⟨ownsRow_keep (h p s hp hs).1 (fun g hg=>hk g ((h p s hp hs).2 g hg)),hown _ (h p s hp hs).2⟩
 | outs i=>exact fun p s hp hs=>⟨ownsRow_keep (h p s hp hs).1 (fun g hg=>hk g ((h p s hp hs).2 g hg)),hown _ (h p s hp hs).2⟩
 | pipe q=>exact fun x s hx hs=>(h x s hx hs).keep hk hO
 | got i j=>exact fun p s b a hp hs hb ha=>(h p s b a hp hs hb ha).keep hk hO2
 | out i k=>exact fun p s b a hp hs hb ha=>(h p s b a hp hs hb ha).keep hk hO2
 | sunk=>exact SOf.keep h hk hO2
 | aux=>exact hA w w' O O' h hk hO
structure RMem (w:World) (D r:Nat) (O:Nat->Option Own) (A:World->(Nat->Option Own)->Prop) (d:RD):Prop where
 lo:∀g o,O g=some o->D<=g/\g<w.heap.size
 base:∃w0:World,w0.heap.size=D/\Below D w0 w/\RNodes w0 d.vN d.M.ns/\RFiles w0 d.vF d.M.fs
 xlen:d.X.length=d.M.pipes.length
 plen:d.P.length=d.M.ps.length
 slen:∀(i:Nat) (p:SProc) (s:PSlot),d.M.ps[i]? = some p->d.P[i]? = some s->s.gs.length=p.got.length/\s.os.length=p.out.length
 aux:AuxOk A
 part:∀o,Part w D r O A d o
theorem RMem.nodes {w:World} {D r:Nat} {O:Nat->Option Own} {A:World->(Nat->Option Own)->Prop} {d:RD} (h:RMem w D r O A d):RNodes w d.vN d.M.ns/\RFiles w d.vF d.M.fs:=by
 obtain⟨w0,h1,h2,h3,h4⟩:=h.base
 subst h1
 exact⟨h3.below h2,h4.below h2⟩
theorem RMem.le {w:World} {D r:Nat} {O:Nat->Option Own} {A:World->(Nat->Option Own)->Prop} {d:RD} (h:RMem w D r O A d):D<=w.heap.size:=by
 obtain⟨w0,h1,h2,_⟩:=h.base
 have:=h2.size
 omega
structure Touch (O:Nat->Option Own) (o:Own) (w w':World):Prop where
 os:w'.os=w.os
 tape:w'.tape=w.tape
 output:w'.output=w.output
 size:w.heap.size<=w'.heap.size
 block:∀k,k<w.heap.size->O k≠some o->w'.heap[k]? = w.heap[k]?
theorem Touch.of_below {O:Nat->Option Own} {o:Own} {w w':World} (h:Below w.heap.size w w'):Touch O o w w':=⟨h.os,h.tape,h.output,h.size,fun k hk _=>h.block k hk⟩
theorem Touch.set {O:Nat->Option Own} {o:Own} {w w':World} (h:Touch O o w w') {a:Addr} {v:Value} (ha:O a.block=some o):Touch O o w (w'.setCell a v):=
 ⟨h.os,h.tape,h.output,by simpa using h.size,fun k hk hn=>(Below.heap_setCell _ _ _ _ (fun e=>hn (by rw[e];exact ha))).trans (h.block k hk hn)⟩
theorem Touch.refl (O:Nat->Option Own) (o:Own) (w:World):Touch O o w w:=⟨rfl,rfl,rfl,Nat.le_refl _,fun _ _ _=>rfl⟩
theorem Touch.below {w w':World} {D r:Nat} {O:Nat->Option Own} {A:World->(Nat->Option Own)->Prop} {d:RD} (h:RMem w D r O A d) {o:Own} (t:Touch O o w w'):Below D w w':=
 ⟨t.os,t.tape,t.output,t.size,fun k hk=>t.block k (by have:=h.le;omega) (fun e=>by have:=(h.lo k o e).1;omega)⟩
theorem RMem.upd {w w':World} {D r:Nat} {O O':Nat->Option Own} {A:World->(Nat->Option Own)->Prop} {d d':RD} (h:RMem w D r O A d) {o:Own} (t:Touch O o w w') (hO:∀k,k<w.heap.size->O' k=O k) (hlo:∀g o,O' g=some o->D<=g/\g<w'.heap.size)
 (hN:d'.vN=d.vN) (hF:d'.vF=d.vF) (hns:d'.M.ns=d.M.ns) (hfs:d'.M.fs=d.M.fs) (hxl:d'.X.length=d'.M.pipes.length) (hpl:d'.P.length=d'.M.ps.length)
 (hsl:∀(i:Nat) (p:SProc) (s:PSlot),d'.M.ps[i]? = some p->d'.P[i]? = some s->s.gs.length=p.got.length/\s.os.length=p.out.length)
 (hoth:∀o',o'≠o->Part w D r O A d o'->Part w D r O A d' o') (hown:Part w' D r O' A d' o):RMem w' D r O' A d':=by
 have hb:=t.below h
 obtain⟨w0,b1,b2,b3,b4⟩:=h.base
 refine⟨hlo,⟨w0,b1,b2.trans hb,by rw[hN,hns];exact b3,by rw[hF,hfs];exact b4⟩,hxl,hpl,hsl,h.aux,fun o'=>?_⟩
 by_cases e:o'=o
 . subst e;exact hown
 . exact (hoth o' e (h.part o')).keep h.aux (fun k hk=>t.block k (h.lo k o' hk).2 (fun e2=>e (by rw[hk] at e2;injection e2))) (fun k o2 hk=>hO k (h.lo k o2 hk).2) (fun k o2 hk=>(h.lo k o2 hk).2) hO
end Go.Proofs.YtllgglolcgdehaaGreatDoor
namespace Go.Proofs.YtllgglolcgdehaaGreatDoor
open Go.RowKit Go.Gs
set_option linter.unusedVariables false
def RD.setPipe (d:RD) (q:Nat) (x:SPipe) (s:Sl):RD:=⟨d.M.setX q x,d.vN,d.vF,d.vX,d.vP,d.vI,d.vM,d.sS,d.X.set q s,d.P⟩
def RD.setProc (d:RD) (i:Nat) (p:SProc) (s:PSlot):RD:=⟨d.M.setP i p,d.vN,d.vF,d.vX,d.vP,d.vI,d.vM,d.sS,d.X,d.P.set i s⟩
def RD.setSunk (d:RD) (b:List UInt8) (s:Sl):RD:=⟨⟨d.M.ns,d.M.fs,d.M.pipes,d.M.ps,b⟩,d.vN,d.vF,d.vX,d.vP,d.vI,d.vM,s,d.X,d.P⟩
section
variable {w w':World} {D r:Nat} {O O':Nat->Option Own} {A:World->(Nat->Option Own)->Prop} {d:RD}
theorem RMem.grow (h:RMem w D r O A d) (hb:Below w.heap.size w w') (hO:∀k,k<w.heap.size->O' k=O k) (hlo:∀g o,O' g=some o->w.heap.size<=g->g<w'.heap.size):RMem w' D r O' A d:=by
 have hle:=h.le
 refine h.upd (o:=.aux) (Touch.of_below hb) hO (fun g o hg=>?_) rfl rfl rfl rfl h.xlen h.plen h.slen (fun _ _ hp=>hp) ?_
 .
  by_cases hgs:g<w.heap.size
  . have:=h.lo g o (by rw[<- hO g hgs];exact hg)
    have:=hb.size
    omega
  . exact⟨by omega,hlo g o hg (by omega)⟩
 . exact (h.part .aux).keep h.aux (fun k hk=>hb.block k (h.lo k _ hk).2) (fun k o hk=>hO k (h.lo k o hk).2) (fun k o hk=>(h.lo k o hk).2) hO
theorem RMem.below (h:RMem w D r O A d) (hb:Below w.heap.size w w'):RMem w' D r O A d:=h.grow hb (fun _ _=>rfl) (fun g o hg hge=>absurd (h.lo g o hg).2 (by omega))
theorem cells7 {w:World} {k:Nat} {a b c d e f g:Value} {t:TypeId} (h:w.heap[k]? = some (.cells #[a,b,c,d,e,f,g] t (0,0))) :
 w.cell? ⟨k,0,none⟩=some a/\w.cell? ⟨k,1,none⟩=some b/\w.cell? ⟨k,2,none⟩=some c/\w.cell? ⟨k,3,none⟩=some d/\w.cell? ⟨k,4,none⟩=some e/\w.cell? ⟨k,5,none⟩=some f/\w.cell? ⟨k,6,none⟩=some g:=by
 refine⟨?_,?_,?_,?_,?_,?_,?_⟩
 all_goals
  rw[cell_of_row _ _ _ _ _ _ h]
  rfl
theorem RMem.box (h:RMem w D r O A d):w.heap[r]? = some (.cells #[d.vN,d.vF,d.vX,d.vP,sl d.M.sunk d.sS,d.vI,d.vM] 111 (0,0))/\O r=some .box:=h.part .box
theorem owns_formE {B:Nat} {e:TypeId} {size n:Nat} {v:Value} {xs:List Value} (h:w.ownsRow B e size v n xs):(∃ao cap,v=.slice ao n cap/\n<=cap/\cap<=maxLen)/\(n≠0 -> ∃g cap,v=.slice (some ⟨g,0,none⟩) n cap/\n<=cap/\cap<=9223372036854775807/\g<w.heap.size/\(∀j,j<n*size->w.cell? ⟨g,j,none⟩=xs[j]?) /\ ∀j,w.frozen? ⟨g,j,none⟩=false):=by
 rcases id h.2 with ⟨rfl,h0⟩ | ⟨g,cap,cur,rfl,hb,hg,h1,h2,h3,h4⟩
 . exact⟨⟨none,0,by rw[h0],by omega,by simp[maxLen]⟩,fun hn=>absurd h0 hn⟩
 . exact⟨⟨_,cap,rfl,h1,h2⟩,fun _=>⟨g,cap,rfl,h1,by unfold maxLen at h2;omega,(aSm hg).1,fun j hj=>h.cellAt j hj,fun j=>frozen_of_row _ _ _ _ _ hg⟩⟩
theorem RMem.pipeAt (h:RMem w D r O A d) {q:Nat} {x:SPipe} (hx:d.M.pipes[q]? = some x) :
 ∃g c s,d.vX=.slice (some ⟨g,0,none⟩) d.M.pipes.length c/\d.M.pipes.length<=c/\c<=9223372036854775807/\g<w.heap.size/\O g=some .pipes/\d.X[q]? = some s/\ROf w O (.pipe q) s x.b /\
  w.cell? ⟨g,q*4,none⟩=some (sl x.b s)/\w.cell? ⟨g,q*4+1,none⟩=some (.int .i64 x.room)/\w.cell? ⟨g,q*4+2,none⟩=some (.bool x.closed)/\w.cell? ⟨g,q*4+3,none⟩=some (.bool x.shut) /\ ∀j,w.frozen? ⟨g,j,none⟩=false:=by
 have hql:q<d.M.pipes.length:=(gSm hx).1
 obtain⟨h1,h2⟩:=h.part .pipes
 obtain⟨g,c,e,hc,hc2,hg,hcell,hf⟩:=(owns_formE h1).2 (by omega)
 obtain⟨s,hs⟩:∃s,d.X[q]? = some s:=⟨_,gEl (by rw[h.xlen];exact hql)⟩
 have hrow:(pipeRows d.M.pipes d.X)[q]? = some (pipeRow x s):=zip_at hx hs
 have hat:=flat_at _ q _ (pipeRows_len d.M.pipes d.X) hrow
 refine⟨g,c,s,e,hc,hc2,hg,h2 g (by rw[e];rfl),hs,h.part (.pipe q) x s hx hs,?_,?_,?_,?_,hf⟩
 . rw[hcell _ (by omega)];exact hat 0 (by omega)
 . rw[hcell _ (by omega)];exact hat 1 (by omega)
 . rw[hcell _ (by omega)];exact hat 2 (by omega)
 . rw[hcell _ (by omega)];exact hat 3 (by omega)
theorem RMem.procAt (h:RMem w D r O A d) {i:Nat} {p:SProc} (hp:d.M.ps[i]? = some p) :
 ∃g c s,d.vP=.slice (some ⟨g,0,none⟩) d.M.ps.length c/\d.M.ps.length<=c/\c<=9223372036854775807/\g<w.heap.size/\O g=some .procs/\d.P[i]? = some s /\
  w.cell? ⟨g,i*5,none⟩=some s.gv/\w.cell? ⟨g,i*5+1,none⟩=some (.int .i64 p.pos)/\w.cell? ⟨g,i*5+2,none⟩=some s.ov/\w.cell? ⟨g,i*5+3,none⟩=some (.bool p.rd)/\w.cell? ⟨g,i*5+4,none⟩=some (.bool p.ov)/\(∀j,w.frozen? ⟨g,j,none⟩=false) /\
  w.ownsRow D 28 1 s.gv p.got.length (slRow p.got s.gs)/\w.ownsRow D 28 1 s.ov p.out.length (slRow p.out s.os)/\s.gs.length=p.got.length/\s.os.length=p.out.length:=by
 have hil:i<d.M.ps.length:=(gSm hp).1
 obtain⟨h1,h2⟩:=h.part .procs
 obtain⟨g,c,e,hc,hc2,hg,hcell,hf⟩:=(owns_formE h1).2 (by omega)
 obtain⟨s,hs⟩:∃s,d.P[i]? = some s:=⟨_,gEl (by rw[h.plen];exact hil)⟩
 have hrow:(procRows d.M.ps d.P)[i]? = some (procRow p s):=zip_at hp hs
 have hat:=flat_at _ i _ (procRows_len d.M.ps d.P) hrow
 refine⟨g,c,s,e,hc,hc2,hg,h2 g (by rw[e];rfl),hs,?_,?_,?_,?_,?_,hf,(h.part (.gots i) p s hp hs).1,(h.part (.outs i) p s hp hs).1,(h.slen i p s hp hs).1,(h.slen i p s hp hs).2⟩
 . rw[hcell _ (by omega)];exact hat 0 (by omega)
 . rw[hcell _ (by omega)];exact hat 1 (by omega)
 . rw[hcell _ (by omega)];exact hat 2 (by omega)
 . rw[hcell _ (by omega)];exact hat 3 (by omega)
 . rw[hcell _ (by omega)];exact hat 4 (by omega)
theorem slRow_at {l:List (List UInt8)} {ss:List Sl} {j:Nat} {b:List UInt8} {s:Sl} (hb:l[j]? = some b) (hs:ss[j]? = some s):(slRow l ss)[j]? = some (sl b s):=zip_at hb hs
theorem RMem.gotAt (h:RMem w D r O A d) {i j:Nat} {p:SProc} {s:PSlot} {b:List UInt8} (hp:d.M.ps[i]? = some p) (hs:d.P[i]? = some s) (hb:p.got[j]? = some b) :
 ∃g c a,s.gv=.slice (some ⟨g,0,none⟩) p.got.length c/\p.got.length<=c/\c<=9223372036854775807/\g<w.heap.size/\O g=some (.gots i)/\s.gs[j]? = some a/\SOf w O (.got i j) a b/\w.cell? ⟨g,j,none⟩=some (sl b a) /\ ∀j,w.frozen? ⟨g,j,none⟩=false:=by
 have hjl:j<p.got.length:=(gSm hb).1
 obtain⟨h1,h2⟩:=h.part (.gots i) p s hp hs
 obtain⟨g,c,e,hc,hc2,hg,hcell,hf⟩:=(owns_formE h1).2 (by omega)
 obtain⟨a,ha⟩:∃a,s.gs[j]? = some a:=⟨_,gEl (by rw[(h.slen i p s hp hs).1];exact hjl)⟩
 exact⟨g,c,a,e,hc,hc2,hg,h2 g (by rw[e];rfl),ha,h.part (.got i j) p s b a hp hs hb ha,by rw[hcell _ (by omega)];exact slRow_at hb ha,hf⟩
theorem RMem.outAt (h:RMem w D r O A d) {i j:Nat} {p:SProc} {s:PSlot} {b:List UInt8} (hp:d.M.ps[i]? = some p) (hs:d.P[i]? = some s) (hb:p.out[j]? = some b) :
 ∃g c a,s.ov=.slice (some ⟨g,0,none⟩) p.out.length c/\p.out.length<=c/\c<=9223372036854775807/\g<w.heap.size/\O g=some (.outs i)/\s.os[j]? = some a/\SOf w O (.out i j) a b/\w.cell? ⟨g,j,none⟩=some (sl b a) /\ ∀j,w.frozen? ⟨g,j,none⟩=false:=by
 have hjl:j<p.out.length:=(gSm hb).1
 obtain⟨h1,h2⟩:=h.part (.outs i) p s hp hs
 obtain⟨g,c,e,hc,hc2,hg,hcell,hf⟩:=(owns_formE h1).2 (by omega)
 obtain⟨a,ha⟩:∃a,s.os[j]? = some a:=⟨_,gEl (by rw[(h.slen i p s hp hs).2];exact hjl)⟩
 exact⟨g,c,a,e,hc,hc2,hg,h2 g (by rw[e];rfl),ha,h.part (.out i j) p s b a hp hs hb ha,by rw[hcell _ (by omega)];exact slRow_at hb ha,hf⟩
theorem rlist_of {B:Nat} {v:Value} {l:List (List UInt8)} {ss:List Sl} (h:w.ownsRow B 28 1 v l.length (slRow l ss)) (hl:ss.length=l.length) (hs:∀(j:Nat) (b:List UInt8) (a:Sl),l[j]? = some b->ss[j]? = some a->Reads w (sl b a) b.length (b.map U)):RList w v U l:=by
 refine⟨slRow l ss,Reads.of_owns h,fun j b hb=>?_⟩
 obtain⟨a,ha⟩:∃a,ss[j]? = some a:=⟨_,gEl (by rw[hl];exact (gSm hb).1)⟩
 exact⟨_,slRow_at hb ha,hs j b a hb ha⟩
theorem RMem.gots (h:RMem w D r O A d) {i:Nat} {p:SProc} {s:PSlot} (hp:d.M.ps[i]? = some p) (hs:d.P[i]? = some s):RList w s.gv U p.got:=
 rlist_of (h.part (.gots i) p s hp hs).1 (h.slen i p s hp hs).1 (fun j b a hb ha=>(h.part (.got i j) p s b a hp hs hb ha).reads)
theorem RMem.outs (h:RMem w D r O A d) {i:Nat} {p:SProc} {s:PSlot} (hp:d.M.ps[i]? = some p) (hs:d.P[i]? = some s):RList w s.ov U p.out:=
 rlist_of (h.part (.outs i) p s hp hs).1 (h.slen i p s hp hs).2 (fun j b a hb ha=>(h.part (.out i j) p s b a hp hs hb ha).reads)
theorem set_ne {α:Type} {l:List α} {i j:Nat} {a:α} (h:i≠j):(l.set i a)[j]? = l[j]?:=by rw[List.getElem?_set,if_neg h]
theorem set_eq {α:Type} {l:List α} {i:Nat} {a b:α} (h:l[i]? = some b):(l.set i a)[i]? = some a:=by rw[List.getElem?_set,if_pos rfl,if_pos (gSm h).1]
theorem lo_keep (h:RMem w D r O A d) (hs:w.heap.size<=w'.heap.size):∀g o,O g=some o->D<=g/\g<w'.heap.size:=fun g o hg=>⟨(h.lo g o hg).1,by have:=(h.lo g o hg).2;omega⟩
theorem slen_set (h:RMem w D r O A d) {i:Nat} {p':SProc} {s':PSlot} (h1:s'.gs.length=p'.got.length) (h2:s'.os.length=p'.out.length):∀(j:Nat) (p:SProc) (s:PSlot),(d.M.ps.set i p')[j]? = some p->(d.P.set i s')[j]? = some s->s.gs.length=p.got.length/\s.os.length=p.out.length:=by
 intro j p s hp hs
 by_cases e:i=j
 .
  subst e
  rw[List.getElem?_set,if_pos rfl] at hp hs
  split at hp
  .
   split at hs
   . injection hp with hp
     injection hs with hs
     subst hp hs
     exact⟨h1,h2⟩
   . cases hs
  . cases hp
 . rw[set_ne e] at hp hs
   exact h.slen j p s hp hs
theorem RMem.setPipe (h:RMem w D r O A d) {q g c:Nat} {x x':SPipe} {s':Sl} (hx:d.M.pipes[q]? = some x) (hv:d.vX=.slice (some ⟨g,0,none⟩) d.M.pipes.length c) (hg:O g=some .pipes) (hr:ROf w O (.pipe q) s' x'.b) :
 RMem ((((w.setCell ⟨g,q*4,none⟩ (sl x'.b s')).setCell ⟨g,q*4+1,none⟩ (.int .i64 x'.room)).setCell ⟨g,q*4+2,none⟩ (.bool x'.closed)).setCell ⟨g,q*4+3,none⟩ (.bool x'.shut)) D r O A (d.setPipe q x' s'):=by
 have hql:q<d.M.pipes.length:=(gSm hx).1
 obtain⟨s,hs⟩:∃s,d.X[q]? = some s:=⟨_,gEl (by rw[h.xlen];exact hql)⟩
 refine h.upd (o:=.pipes) ((((Touch.refl O .pipes w).set hg).set hg).set hg |>.set hg) (fun _ _=>rfl) (lo_keep h (by simp)) rfl rfl rfl rfl (by simpa[RD.setPipe,SMach.setX] using h.xlen) h.plen h.slen ?_ ?_
 .
  intro o' ho' hp
  cases o' using Own.elimE with
  | pipes=>exact absurd rfl ho'
  | pipe q'=>
   intro y t hy ht
   by_cases e:q=q'
   .
    subst e
    have e1:y=x':=by
     have:(d.M.pipes.set q x')[q]? = some y:=hy
     rw[set_eq hx] at this
     injection this with this
     exact this.symm
    have e2:t=s':=by
     have:(d.X.set q s')[q]? = some t:=ht
     rw[set_eq hs] at this
     injection this with this
     exact this.symm
    subst e1 e2
    exact hr
   . exact hp y t (by have:(d.M.pipes.set q x')[q']? = some y:=hy;rwa [set_ne e] at this) (by have:(d.X.set q s')[q']? = some t:=ht;rwa [set_ne e] at this)
  | box=>exact hp
  | procs=>exact hp
  | gots i=>exact hp
  | outs i=>exact hp
  | got i j=>exact hp
  | out i j=>exact hp
  | sunk=>exact hp
  | aux=>exact hp
 .
  obtain⟨h1,h2⟩:=h.part .pipes
  refine⟨?_,h2⟩
  have hrow:(pipeRows d.M.pipes d.X)[q]? = some (pipeRow x s):=zip_at hx hs
  have hl:=pipeRows_len d.M.pipes d.X
  rw[hv] at h1
  have k0:=owns_set h1 (q*4) (by omega) (sl x'.b s')
  have k1:=owns_set k0 (q*4+1) (by omega) (.int .i64 x'.room)
  have k2:=owns_set k1 (q*4+2) (by omega) (.bool x'.closed)
  have k3:=owns_set k2 (q*4+3) (by omega) (.bool x'.shut)
  have e1:(((((pipeRows d.M.pipes d.X).flatten.set (q*4) (sl x'.b s')).set (q*4+1) (.int .i64 x'.room)).set (q*4+2) (.bool x'.closed)).set (q*4+3) (.bool x'.shut))=(pipeRows (d.M.pipes.set q x') (d.X.set q s')).flatten:=by
   have f0:=flat_set _ q _ hl hrow 0 (sl x'.b s') (by omega)
   rw[Nat.add_zero] at f0
   rw[f0]
   have hl1:∀r∈(pipeRows d.M.pipes d.X).set q ((pipeRow x s).set 0 (sl x'.b s')),r.length=4:=fun r hr=>by
    rcases List.mem_or_eq_of_mem_set hr with h | h
    . exact hl r h
    . rw[h];rfl
   rw[flat_set _ q _ hl1 (set_eq hrow) 1 (.int .i64 x'.room) (by omega),List.set_set]
   have hl2:∀r∈(pipeRows d.M.pipes d.X).set q (((pipeRow x s).set 0 (sl x'.b s')).set 1 (.int .i64 x'.room)),r.length=4:=fun r hr=>by
    rcases List.mem_or_eq_of_mem_set hr with h | h
    . exact hl r h
    . rw[h];rfl
   rw[flat_set _ q _ hl2 (set_eq hrow) 2 (.bool x'.closed) (by omega),List.set_set]
   have hl3:∀r∈(pipeRows d.M.pipes d.X).set q ((((pipeRow x s).set 0 (sl x'.b s')).set 1 (.int .i64 x'.room)).set 2 (.bool x'.closed)),r.length=4:=fun r hr=>by
    rcases List.mem_or_eq_of_mem_set hr with h | h
    . exact hl r h
    . rw[h];rfl
   rw[flat_set _ q _ hl3 (set_eq hrow) 3 (.bool x'.shut) (by omega),List.set_set]
   unfold pipeRows
   rw[<- zip_set]
   rfl
  rw[e1] at k3
  have hlen:(d.setPipe q x' s').M.pipes.length=d.M.pipes.length:=by simp[RD.setPipe,SMach.setX]
  show World.ownsRow _ D 66 4 d.vX (d.setPipe q x' s').M.pipes.length _
  rw[hlen,hv]
  exact k3
theorem RMem.setClosed (h:RMem w D r O A d) {q g c:Nat} {x:SPipe} {s:Sl} (hx:d.M.pipes[q]? = some x) (hs:d.X[q]? = some s) (hv:d.vX=.slice (some ⟨g,0,none⟩) d.M.pipes.length c) (hg:O g=some .pipes) :
 RMem (w.setCell ⟨g,q*4+2,none⟩ (.bool true)) D r O A (d.setPipe q (closeP x) s):=by
 have hql:q<d.M.pipes.length:=(gSm hx).1
 refine h.upd (o:=.pipes) ((Touch.refl O .pipes w).set hg) (fun _ _=>rfl) (lo_keep h (by simp)) rfl rfl rfl rfl (by simpa[RD.setPipe,SMach.setX] using h.xlen) h.plen h.slen ?_ ?_
 .
  intro o' ho' hp
  cases o' using Own.elimE with
  | pipes=>exact absurd rfl ho'
  | pipe q'=>
   intro y t hy ht
   by_cases e:q=q'
   .
    subst e
    have e1:y=closeP x:=by
     have:(d.M.pipes.set q (closeP x))[q]? = some y:=hy
     rw[set_eq hx] at this
     injection this with this
     exact this.symm
    have e2:t=s:=by
     have:(d.X.set q s)[q]? = some t:=ht
     rw[set_eq hs] at this
     injection this with this
     exact this.symm
    subst e1 e2
    exact hp x t hx hs
   . exact hp y t (by have:(d.M.pipes.set q (closeP x))[q']? = some y:=hy;rwa [set_ne e] at this) (by have:(d.X.set q s)[q']? = some t:=ht;rwa [set_ne e] at this)
  | box=>exact hp
  | procs=>exact hp
  | gots i=>exact hp
  | outs i=>exact hp
  | got i j=>exact hp
  | out i j=>exact hp
  | sunk=>exact hp
  | aux=>exact hp
 .
  obtain⟨h1,h2⟩:=h.part .pipes
  refine⟨?_,h2⟩
  have hrow:(pipeRows d.M.pipes d.X)[q]? = some (pipeRow x s):=zip_at hx hs
  have hl:=pipeRows_len d.M.pipes d.X
  rw[hv] at h1
  have k0:=owns_set h1 (q*4+2) (by omega) (.bool true)
  rw[flat_set _ q _ hl hrow 2 (.bool true) (by omega)] at k0
  have e1:(pipeRows d.M.pipes d.X).set q ((pipeRow x s).set 2 (.bool true))=pipeRows (d.M.pipes.set q (closeP x)) (d.X.set q s):=by
   unfold pipeRows
   rw[<- zip_set]
   rfl
  rw[e1] at k0
  have hlen:(d.setPipe q (closeP x) s).M.pipes.length=d.M.pipes.length:=by simp[RD.setPipe,SMach.setX]
  show World.ownsRow _ D 66 4 d.vX (d.setPipe q (closeP x) s).M.pipes.length _
  rw[hlen,hv]
  exact k0
theorem RMem.setNum (h:RMem w D r O A d) {i g c k:Nat} {p p':SProc} {s:PSlot} {u:Value} (hp:d.M.ps[i]? = some p) (hs:d.P[i]? = some s) (hv:d.vP=.slice (some ⟨g,0,none⟩) d.M.ps.length c) (hg:O g=some .procs) (hk:k<5) (hrow:(procRow p s).set k u=procRow p' s) (hgot:p'.got=p.got) (hout:p'.out=p.out) :
 RMem (w.setCell ⟨g,i*5+k,none⟩ u) D r O A (d.setProc i p' s):=by
 have hil:i<d.M.ps.length:=(gSm hp).1
 have hss:d.P.set i s=d.P:=by
  apply List.ext_getElem?
  intro j
  by_cases e:i=j
  . subst e;rw[set_eq hs,hs]
  . rw[set_ne e]
 have hpn:∀(j:Nat) (q:SProc),(d.M.ps.set i p')[j]? = some q -> ∃q0,d.M.ps[j]? = some q0/\q.got=q0.got/\q.out=q0.out:=by
  intro j q hq
  by_cases e:i=j
  . subst e
    rw[set_eq hp] at hq
    injection hq with hq
    subst hq
    exact⟨p,hp,hgot,hout⟩
  . rw[set_ne e] at hq
    exact⟨q,hq,rfl,rfl⟩
 have hPs:(d.setProc i p' s).P=d.P:=hss
 refine h.upd (o:=.procs) ((Touch.refl O .procs w).set hg) (fun _ _=>rfl) (lo_keep h (by simp)) rfl rfl rfl rfl h.xlen (by simpa[RD.setProc,SMach.setP] using h.plen) (slen_set h (by rw[hgot];exact (h.slen i p s hp hs).1) (by rw[hout];exact (h.slen i p s hp hs).2)) ?_ ?_
 .
  intro o' ho' hpt
  cases o' using Own.elimE with
  | procs=>exact absurd rfl ho'
  | gots j=>
   intro q t hq ht
   rw[hPs] at ht
   obtain⟨q0,h1,h2,h3⟩:=hpn j q hq
   rw[h2];exact hpt q0 t h1 ht
  | outs j=>
   intro q t hq ht
   rw[hPs] at ht
   obtain⟨q0,h1,h2,h3⟩:=hpn j q hq
   rw[h3];exact hpt q0 t h1 ht
  | got j k=>
   intro q t b a hq ht hb ha
   rw[hPs] at ht
   obtain⟨q0,h1,h2,h3⟩:=hpn j q hq
   rw[h2] at hb;exact hpt q0 t b a h1 ht hb ha
  | out j k=>
   intro q t b a hq ht hb ha
   rw[hPs] at ht
   obtain⟨q0,h1,h2,h3⟩:=hpn j q hq
   rw[h3] at hb;exact hpt q0 t b a h1 ht hb ha
  | box=>exact hpt
  | pipes=>exact hpt
  | pipe q=>exact hpt
  | sunk=>exact hpt
  | aux=>exact hpt
 .
  obtain⟨h1,h2⟩:=h.part .procs
  refine⟨?_,h2⟩
  have hr0:(procRows d.M.ps d.P)[i]? = some (procRow p s):=zip_at hp hs
  have hl:=procRows_len d.M.ps d.P
  rw[hv] at h1
  have k0:=owns_set h1 (i*5+k) (by omega) u
  rw[flat_set _ i _ hl hr0 k u hk,hrow] at k0
  have e1:(procRows d.M.ps d.P).set i (procRow p' s)=procRows (d.M.ps.set i p') (d.P.set i s):=by
   unfold procRows
   rw[<- zip_set]
  rw[e1] at k0
  have hlen:(d.setProc i p' s).M.ps.length=d.M.ps.length:=by simp[RD.setProc,SMach.setP]
  show World.ownsRow _ D 76 5 d.vP (d.setProc i p' s).M.ps.length _
  rw[hlen,hv]
  exact k0
end
end Go.Proofs.YtllgglolcgdehaaGreatDoor
namespace Go.Proofs.YtllgglolcgdehaaGreatDoor
open Go.RowKit Go.Gs
set_option linter.unusedVariables false
section
variable {w w':World} {D r:Nat} {O O':Nat->Option Own} {A:World->(Nat->Option Own)->Prop} {d:RD}
def SProc.gotSet (p:SProc) (j:Nat) (b:List UInt8):SProc:=⟨p.got.set j b,p.pos,p.out,p.rd,p.ov⟩
def PSlot.gotSet (s:PSlot) (j:Nat) (a:Sl):PSlot:=⟨s.gv,s.ov,s.gs.set j a,s.os⟩
def PSlot.outSet (s:PSlot) (j:Nat) (a:Sl):PSlot:=⟨s.gv,s.ov,s.gs,s.os.set j a⟩
theorem slRow_set (l:List (List UInt8)) (ss:List Sl) (j:Nat) (b:List UInt8) (a:Sl):(slRow l ss).set j (sl b a)=slRow (l.set j b) (ss.set j a):=zip_set l ss j b a
theorem procRows_same {i:Nat} {p p':SProc} {s s':PSlot} (hp:d.M.ps[i]? = some p) (hs:d.P[i]? = some s) (hrow:procRow p' s'=procRow p s):procRows (d.M.ps.set i p') (d.P.set i s')=procRows d.M.ps d.P:=by
 unfold procRows
 rw[<- zip_set,hrow]
 apply List.ext_getElem?
 intro j
 by_cases e:i=j
 . subst e
   have:(List.zipWith procRow d.M.ps d.P)[i]? = some (procRow p s):=zip_at hp hs
   rw[set_eq this,this]
 . rw[set_ne e]
theorem RMem.setGot (h:RMem w D r O A d) {i j g c:Nat} {p:SProc} {s:PSlot} {b0 b:List UInt8} {a:Sl} (hp:d.M.ps[i]? = some p) (hs:d.P[i]? = some s) (hb0:p.got[j]? = some b0) (hv:s.gv=.slice (some ⟨g,0,none⟩) p.got.length c) (hg:O g=some (.gots i)) (ha:SOf w O (.got i j) a b) :
 RMem (w.setCell ⟨g,j,none⟩ (sl b a)) D r O A (d.setProc i (SProc.gotSet p j b) (s.gotSet j a)):=by
 have hjl:j<p.got.length:=(gSm hb0).1
 obtain⟨hl1,hl2⟩:=h.slen i p s hp hs
 refine h.upd (o:=.gots i) ((Touch.refl O (.gots i) w).set hg) (fun _ _=>rfl) (lo_keep h (by simp)) rfl rfl rfl rfl h.xlen (by simpa[RD.setProc,SMach.setP] using h.plen) (slen_set h (by simpa[SProc.gotSet,PSlot.gotSet] using hl1) hl2) ?_ ?_
 .
  intro o' ho' hpt
  cases o' using Own.elimE with
  | procs=>
   refine⟨?_,hpt.2⟩
   have e1:procRows (d.setProc i (SProc.gotSet p j b) (s.gotSet j a)).M.ps (d.setProc i (SProc.gotSet p j b) (s.gotSet j a)).P=procRows d.M.ps d.P:=procRows_same hp hs rfl
   have hlen:(d.setProc i (SProc.gotSet p j b) (s.gotSet j a)).M.ps.length=d.M.ps.length:=by simp[RD.setProc,SMach.setP]
   rw[e1,hlen]
   exact hpt.1
  | gots i'=>
   have hne:i≠i':=fun e=>ho' (by rw[e])
   intro q t hq ht
   exact hpt q t (by have:(d.M.ps.set i (SProc.gotSet p j b))[i']? = some q:=hq;rwa [set_ne hne] at this) (by have:(d.P.set i (s.gotSet j a))[i']? = some t:=ht;rwa [set_ne hne] at this)
  | outs i'=>
   intro q t hq ht
   by_cases e:i=i'
   . subst e
     have e1:SProc.gotSet p j b=q:=by have:(d.M.ps.set i (SProc.gotSet p j b))[i]? = some q:=hq;rw[set_eq hp] at this;injection this
     have e2:s.gotSet j a=t:=by have:(d.P.set i (s.gotSet j a))[i]? = some t:=ht;rw[set_eq hs] at this;injection this
     subst e1 e2
     exact hpt p s hp hs
   . exact hpt q t (by have:(d.M.ps.set i (SProc.gotSet p j b))[i']? = some q:=hq;rwa [set_ne e] at this) (by have:(d.P.set i (s.gotSet j a))[i']? = some t:=ht;rwa [set_ne e] at this)
  | got i' j'=>
   intro q t b' a' hq ht hb' ha'
   by_cases e:i=i'
   .
    subst e
    have e1:SProc.gotSet p j b=q:=by have:(d.M.ps.set i (SProc.gotSet p j b))[i]? = some q:=hq;rw[set_eq hp] at this;injection this
    have e2:s.gotSet j a=t:=by have:(d.P.set i (s.gotSet j a))[i]? = some t:=ht;rw[set_eq hs] at this;injection this
    subst e1 e2
    by_cases ej:j=j'
    .
     subst ej
     have e3:b=b':=by have:(p.got.set j b)[j]? = some b':=hb';rw[set_eq hb0] at this;injection this
     have e4:a=a':=by
      have:(s.gs.set j a)[j]? = some a':=ha'
      rw[set_eq (gEl (by rw[hl1];exact hjl))] at this
      injection this
     subst e3 e4
     exact ha
    . exact hpt p s b' a' hp hs (by have:(p.got.set j b)[j']? = some b':=hb';rwa [set_ne ej] at this) (by have:(s.gs.set j a)[j']? = some a':=ha';rwa [set_ne ej] at this)
   . exact hpt q t b' a' (by have:(d.M.ps.set i (SProc.gotSet p j b))[i']? = some q:=hq;rwa [set_ne e] at this) (by have:(d.P.set i (s.gotSet j a))[i']? = some t:=ht;rwa [set_ne e] at this) hb' ha'
  | out i' k=>
   intro q t b' a' hq ht hb' ha'
   by_cases e:i=i'
   . subst e
     have e1:SProc.gotSet p j b=q:=by have:(d.M.ps.set i (SProc.gotSet p j b))[i]? = some q:=hq;rw[set_eq hp] at this;injection this
     have e2:s.gotSet j a=t:=by have:(d.P.set i (s.gotSet j a))[i]? = some t:=ht;rw[set_eq hs] at this;injection this
     subst e1 e2
     exact hpt p s b' a' hp hs hb' ha'
   . exact hpt q t b' a' (by have:(d.M.ps.set i (SProc.gotSet p j b))[i']? = some q:=hq;rwa [set_ne e] at this) (by have:(d.P.set i (s.gotSet j a))[i']? = some t:=ht;rwa [set_ne e] at this) hb' ha'
  | box=>exact hpt
  | pipes=>exact hpt
  | pipe q=>exact hpt
  | sunk=>exact hpt
  | aux=>exact hpt
 .
  intro q t hq ht
  have e1:SProc.gotSet p j b=q:=by have:(d.M.ps.set i (SProc.gotSet p j b))[i]? = some q:=hq;rw[set_eq hp] at this;injection this
  have e2:s.gotSet j a=t:=by have:(d.P.set i (s.gotSet j a))[i]? = some t:=ht;rw[set_eq hs] at this;injection this
  subst e1 e2
  obtain⟨h1,h2⟩:=h.part (.gots i) p s hp hs
  refine⟨?_,h2⟩
  rw[hv] at h1
  have k0:=owns_set h1 j (by omega) (sl b a)
  rw[slRow_set] at k0
  show World.ownsRow _ D 28 1 s.gv (p.got.set j b).length (slRow (p.got.set j b) (s.gs.set j a))
  rw[List.length_set,hv]
  exact k0
theorem RMem.setOut (h:RMem w D r O A d) {i j g c:Nat} {p:SProc} {s:PSlot} {b0 b:List UInt8} {a:Sl} (hp:d.M.ps[i]? = some p) (hs:d.P[i]? = some s) (hb0:p.out[j]? = some b0) (hv:s.ov=.slice (some ⟨g,0,none⟩) p.out.length c) (hg:O g=some (.outs i)) (ha:SOf w O (.out i j) a b) :
 RMem (w.setCell ⟨g,j,none⟩ (sl b a)) D r O A (d.setProc i (p.setOut j b) (s.outSet j a)):=by
 have hjl:j<p.out.length:=(gSm hb0).1
 obtain⟨hl1,hl2⟩:=h.slen i p s hp hs
 refine h.upd (o:=.outs i) ((Touch.refl O (.outs i) w).set hg) (fun _ _=>rfl) (lo_keep h (by simp)) rfl rfl rfl rfl h.xlen (by simpa[RD.setProc,SMach.setP] using h.plen) (slen_set h hl1 (by simpa[SProc.setOut,PSlot.outSet] using hl2)) ?_ ?_
 .
  intro o' ho' hpt
  cases o' using Own.elimE with
  | procs=>
   refine⟨?_,hpt.2⟩
   have e1:procRows (d.setProc i (p.setOut j b) (s.outSet j a)).M.ps (d.setProc i (p.setOut j b) (s.outSet j a)).P=procRows d.M.ps d.P:=procRows_same hp hs rfl
   have hlen:(d.setProc i (p.setOut j b) (s.outSet j a)).M.ps.length=d.M.ps.length:=by simp[RD.setProc,SMach.setP]
   rw[e1,hlen]
   exact hpt.1
  | outs i'=>
   have hne:i≠i':=fun e=>ho' (by rw[e])
   intro q t hq ht
   exact hpt q t (by have:(d.M.ps.set i (p.setOut j b))[i']? = some q:=hq;rwa [set_ne hne] at this) (by have:(d.P.set i (s.outSet j a))[i']? = some t:=ht;rwa [set_ne hne] at this)
  | gots i'=>
   intro q t hq ht
   by_cases e:i=i'
   . subst e
     have e1:p.setOut j b=q:=by have:(d.M.ps.set i (p.setOut j b))[i]? = some q:=hq;rw[set_eq hp] at this;injection this
     have e2:s.outSet j a=t:=by have:(d.P.set i (s.outSet j a))[i]? = some t:=ht;rw[set_eq hs] at this;injection this
     subst e1 e2
     exact hpt p s hp hs
   . exact hpt q t (by have:(d.M.ps.set i (p.setOut j b))[i']? = some q:=hq;rwa [set_ne e] at this) (by have:(d.P.set i (s.outSet j a))[i']? = some t:=ht;rwa [set_ne e] at this)
  | out i' j'=>
   intro q t b' a' hq ht hb' ha'
   by_cases e:i=i'
   .
    subst e
    have e1:p.setOut j b=q:=by have:(d.M.ps.set i (p.setOut j b))[i]? = some q:=hq;rw[set_eq hp] at this;injection this
    have e2:s.outSet j a=t:=by have:(d.P.set i (s.outSet j a))[i]? = some t:=ht;rw[set_eq hs] at this;injection this
    subst e1 e2
    by_cases ej:j=j'
    .
     subst ej
     have e3:b=b':=by have:(p.out.set j b)[j]? = some b':=hb';rw[set_eq hb0] at this;injection this
     have e4:a=a':=by
      have:(s.os.set j a)[j]? = some a':=ha'
      rw[set_eq (gEl (by rw[hl2];exact hjl))] at this
      injection this
     subst e3 e4
     exact ha
    . exact hpt p s b' a' hp hs (by have:(p.out.set j b)[j']? = some b':=hb';rwa [set_ne ej] at this) (by have:(s.os.set j a)[j']? = some a':=ha';rwa [set_ne ej] at this)
   . exact hpt q t b' a' (by have:(d.M.ps.set i (p.setOut j b))[i']? = some q:=hq;rwa [set_ne e] at this) (by have:(d.P.set i (s.outSet j a))[i']? = some t:=ht;rwa [set_ne e] at this) hb' ha'
  | got i' k=>
   intro q t b' a' hq ht hb' ha'
   by_cases e:i=i'
   . subst e
     have e1:p.setOut j b=q:=by have:(d.M.ps.set i (p.setOut j b))[i]? = some q:=hq;rw[set_eq hp] at this;injection this
     have e2:s.outSet j a=t:=by have:(d.P.set i (s.outSet j a))[i]? = some t:=ht;rw[set_eq hs] at this;injection this
     subst e1 e2
     exact hpt p s b' a' hp hs hb' ha'
   . exact hpt q t b' a' (by have:(d.M.ps.set i (p.setOut j b))[i']? = some q:=hq;rwa [set_ne e] at this) (by have:(d.P.set i (s.outSet j a))[i']? = some t:=ht;rwa [set_ne e] at this) hb' ha'
  | box=>exact hpt
  | pipes=>exact hpt
  | pipe q=>exact hpt
  | sunk=>exact hpt
  | aux=>exact hpt
 .
  intro q t hq ht
  have e1:p.setOut j b=q:=by have:(d.M.ps.set i (p.setOut j b))[i]? = some q:=hq;rw[set_eq hp] at this;injection this
  have e2:s.outSet j a=t:=by have:(d.P.set i (s.outSet j a))[i]? = some t:=ht;rw[set_eq hs] at this;injection this
  subst e1 e2
  obtain⟨h1,h2⟩:=h.part (.outs i) p s hp hs
  refine⟨?_,h2⟩
  rw[hv] at h1
  have k0:=owns_set h1 j (by omega) (sl b a)
  rw[slRow_set] at k0
  show World.ownsRow _ D 28 1 s.ov (p.out.set j b).length (slRow (p.out.set j b) (s.os.set j a))
  rw[List.length_set,hv]
  exact k0
theorem RMem.setSunk (h:RMem w D r O A d) {b:List UInt8} {a:Sl} (ha:SOf w O .sunk a b):RMem (w.setCell ⟨r,4,none⟩ (sl b a)) D r O A (d.setSunk b a):=by
 have hbx:=h.box
 refine h.upd (o:=.box) ((Touch.refl O .box w).set hbx.2) (fun _ _=>rfl) (lo_keep h (by simp)) rfl rfl rfl rfl h.xlen h.plen h.slen ?_ ?_
 .
  intro o' ho' hpt
  cases o' using Own.elimE with
  | box=>exact absurd rfl ho'
  | sunk=>exact ha
  | pipes=>exact hpt
  | procs=>exact hpt
  | gots i=>exact hpt
  | outs i=>exact hpt
  | pipe q=>exact hpt
  | got i j=>exact hpt
  | out i j=>exact hpt
  | aux=>exact hpt
 . refine⟨?_,hbx.2⟩
   rw[setCell_eq_setRow w r 4 _ _ (0,0) _ hbx.1]
   rw[setRow_heap w r _ _ _ _ hbx.1]
   rfl
structure Ext (O O':Nat->Option Own) (o:Own) (w w':World):Prop where
 old:∀k,k<w.heap.size->O' k=O k
 new:∀g o',O' g=some o'->w.heap.size<=g->g<w'.heap.size
theorem src_of {tx:TypeId} (hk:Tryz.prog.underlying tx=some (.slice 5)) {ax:Option Addr} {cx:Nat} {c:List UInt8} (hr:Reads w (.slice ax c.length cx) c.length (c.map U)):Src Tryz.prog 1 tx (.slice ax c.length cx) c.length (c.map U) w:=by
 obtain⟨h1,ao,cap,e,h2,h3,h4⟩:=hr
 injection e with e1 e2 e3
 subst e1 e3
 cases hc:c with
 | nil=>
  cases ax with
  | none=>exact Src.ofNil w hk cx
  | some a=>exact Src.ofSlice w hk a 0 cx [] rfl (fun j u h=>by simp at h) (fun u h=>by cases h)
 | cons x l=>
  obtain⟨b,off,rfl,hcell⟩:=h4 (by rw[hc];simp)
  rw[<- hc]
  refine Src.ofSlice w hk ⟨b,off,none⟩ c.length cx (c.map U) (by simp) (fun j u hj=>?_) U_oneP
  rw[addP]
  exact hcell j u hj
theorem first_cells {s:Sl} {b:List UInt8} {o:Own} (h:SOf w O o s b):(Builtin.firstCells 1 b.length (sl b s)).run Tryz.prog w.drew=.ok (b.map U).toArray w.drew:=by
 have hr:=h.reads
 obtain⟨h1,ao,cap,e,h2,h3,h4⟩:=hr
 unfold sl at e ⊢
 injection e with e1 e2 e3
 cases hb:b with
 | nil=>
  cases hs:s.1 with
  | none=>exact run_firstCells_none w.drew 1 0 0 s.2
  | some a=>exact run_firstCells_some w.drew 1 0 a 0 s.2 [] rfl (fun j v h=>by simp at h)
 | cons x l=>
  obtain⟨g,off,e4,hc⟩:=h4 (by rw[hb];simp)
  rw[<- hb]
  rw[e1,e4]
  refine run_firstCells_some w.drew 1 b.length ⟨g,off,none⟩ b.length s.2 (b.map U) (by simp) (fun j u hj=>?_)
  rw[addP]
  have:=hc j u hj
  simpa using this
theorem row_setCells {g:Nat} {t:TypeId}:∀(vs:List Value) (o:Nat) (w:World) (cur:Array Value),w.heap[g]? = some (.cells cur t (0,0))->o+vs.length<=cur.size ->
 ∃cur',(w.setCells g o vs).heap[g]? = some (.cells cur' t (0,0))/\cur'.size=cur.size /\ ∀j,cur'[j]? = if o<=j/\j<o+vs.length then vs[j-o]? else cur[j]?
 | [],o,w,cur,h,_=>⟨cur,h,rfl,fun j=>by rw[if_neg (by simp)]⟩
 | v::vs,o,w,cur,h,hl=>by
  simp only[List.length_cons] at hl
  have h1:(w.setCell ⟨g,o,none⟩ v).heap[g]? = some (.cells (cur.setIfInBounds o v) t (0,0)):=by
   rw[setCell_eq_setRow w g o cur t (0,0) v h]
   exact setRow_heap w g cur _ t _ h
  obtain⟨cur',h2,h3,h4⟩:=row_setCells vs (o+1) (w.setCell ⟨g,o,none⟩ v) _ h1 (by simp;omega)
  refine⟨cur',h2,by simpa using h3,fun j=>?_⟩
  rw[h4 j]
  by_cases hj:o<=j/\j<o+(v::vs).length
  .
   rw[if_pos hj]
   simp only[List.length_cons] at hj
   by_cases e:j=o
   . subst e
     rw[if_neg (by omega),Array.getElem?_setIfInBounds,if_pos rfl,if_pos (by omega)]
     simp
   . rw[if_pos (by omega),show j-o=(j-(o+1))+1 by omega,List.getElem?_cons_succ]
  . rw[if_neg hj]
    simp only[List.length_cons] at hj
    rw[if_neg (by omega),Array.getElem?_setIfInBounds,if_neg (by omega)]
theorem tape_setCellsE (g:Nat):∀(vs:List Value) (o:Nat) (w:World),(w.setCells g o vs).tape=w.tape
 | [],_,_=>rfl
 | v::vs,o,w=>(tape_setCellsE g vs (o+1) (w.setCell ⟨g,o,none⟩ v)).trans rfl
theorem take_drop_at {xs:List Value} {off n:Nat} {ys:List Value} (hn:ys.length=n) (h:∀j,j<n->xs[off+j]? = ys[j]?):(xs.drop off).take n=ys:=by
 apply List.ext_getElem?
 intro j
 rw[List.getElem?_take]
 by_cases hj:j<n
 . rw[if_pos hj,List.getElem?_drop]
   exact h j hj
 . rw[if_neg hj,List.getElem?_eq_none (by omega)]
theorem at_take_drop {xs:List Value} {off n:Nat} {ys:List Value} (h:(xs.drop off).take n=ys) {j:Nat} (hj:j<n):xs[off+j]? = ys[j]?:=by
 rw[<- h,List.getElem?_take,if_pos hj,List.getElem?_drop]
theorem run_append_sof {s:Sl} {b c:List UInt8} {o:Own} (h:SOf w O o s b) (hlo:∀g o,O g=some o->g<w.heap.size) (ty:TypeId) (ht:Tryz.prog.underlying 28 = some (.slice 5)) {ax:Option Addr} {cx:Nat} (hr:Reads w (.slice ax c.length cx) c.length (c.map U)) (hl:b.length+c.length<=140737488355328) :
 ∃s' w' O',(Builtin.append_ #[28,28] ty #[sl b s,.slice ax c.length cx]).run Tryz.prog w=.ok (sl (b++c) s') w'/\Ext O O' o w w'/\Touch O o w w'/\SOf w' O' o s' (b++c)/\SOf w' O' o s b:=by
 obtain⟨i0,hi,hi0,hi1,hi2⟩:=info_parts infoU8P
 have hsrc:=src_of (tx:=28) ht hr
 have hle:b.length<=s.2:=by
  obtain⟨_,ao,cap,e,h2,_,_⟩:=h.reads
  unfold sl at e
  injection e with e1 e2 e3
  omega
 by_cases h0:c=[]
 .
  subst h0
  refine⟨s,w,O,?_,⟨fun _ _=>rfl,fun g o' hg hge=>?_⟩,Touch.refl _ _ _,by rw[List.append_nil];exact h,h⟩
  . have:=run_append_nothing (P:=Tryz.prog) w 28 28 ty 5 i0 ht hi s.1 b.length s.2 hle (.slice ax 0 cx) (by rw[hi1];exact hsrc)
    rw[List.append_nil]
    exact this
  . exact absurd (hlo g o' hg) (by omega)
 .
  have hc0:0<c.length:=List.length_pos_iff.2 h0
  by_cases hroom:b.length+c.length<=s.2
  .
   rcases id h with ⟨rfl,rfl⟩ | ⟨g,off,cur,hs,ho,hg,h1,h2,h3,h4⟩
   . have:nilS.2=0:=rfl
     omega
   .
    have hgl:g<w.heap.size:=(aSm hg).1
    obtain⟨cur',hg',hsz',hat'⟩:=row_setCells (c.map U) (off+b.length*1) w cur hg (by rw[List.length_map];omega)
    have hrun:=run_append_room_src (P:=Tryz.prog) w 28 28 ty 5 i0 ht hi g off b.length s.2 (.slice ax c.length cx) c.length (c.map U) (by rw[hi1];exact hsrc) hroom (fun j hj=>by
     rw[hi1,cell_of_row _ _ _ _ _ _ hg,List.length_map] at *
     rw[Array.getElem?_eq_getElem (by omega)]
     rfl) (fun j hj=>frozen_of_row _ _ _ _ _ hg)
    rw[hi1] at hrun
    have hT:Touch O o w (w.setCells g (off+b.length*1) (c.map U)):=by
     have hk:=World.keptBut_setCells g (may:=fun p=>p.block=g) (c.map U) (off+b.length*1) w (fun _ _=>rfl)
     refine⟨World.os_setCells _ _ _ _,tape_setCellsE _ _ _ _,World.output_setCells _ _ _ _,hk.size,fun k hk2 hn=>World.heap_setCells_other w g _ _ hk2 (fun e=>hn (by rw[e];exact ho))⟩
    have hold:∀j,j<b.length->cur'.toList[off+j]? = (b.map U)[j]?:=by
     intro j hj
     rw[Array.getElem?_toList,hat',if_neg (by omega),<- Array.getElem?_toList]
     exact at_take_drop h4 hj
    refine⟨s,_,O,?_,⟨fun _ _=>rfl,fun g' o' hg' hge=>absurd (hlo g' o' hg') (by omega)⟩,hT,.inr ⟨g,off,cur',hs,ho,hg',?_,h2,by omega,?_⟩,.inr ⟨g,off,cur',hs,ho,hg',h1,h2,by omega,?_⟩⟩
    . unfold sl
      rw[hs,List.length_append]
      exact hrun
    . rw[List.length_append];exact hroom
    .
     refine take_drop_at (by simp) (fun j hj=>?_)
     rw[List.length_append] at hj
     rw[List.map_append]
     by_cases hjb:j<b.length
     . rw[List.getElem?_append_left (by rw[List.length_map];exact hjb)]
       exact hold j hjb
     . rw[List.getElem?_append_right (by rw[List.length_map];omega),Array.getElem?_toList,hat',if_pos (by rw[List.length_map];omega),List.length_map]
       rw[show off+j-(off+b.length*1)=j-b.length by omega]
    . exact take_drop_at (by simp) hold
  .
   have hrun:=run_append_grow_src (P:=Tryz.prog) w 28 28 ty 5 i0 (.int .u8 0) ht hi hi0 s.1 b.length s.2 (b.map U) (by rw[hi1];exact first_cells h) (.slice ax c.length cx) c.length (c.map U) (by rw[hi1];exact hsrc) (by omega) (by omega) (growslice_fits (by omega) (by rw[hi2];omega))
   have hge:=grownCap_ge w (b.length+c.length) s.2 5
   have hcm:grownCap w (b.length+c.length) s.2 5 <= maxLen:=grownCap_le_maxLen w (b.length+c.length) s.2 5 (by unfold maxLen;omega)
   generalize grownCap w (b.length+c.length) s.2 5 = GC at *
   obtain⟨cur,hcur⟩:∃cur,cur=((b.map U++c.map U).toArray++Builtin.zeroCells (Value.int .u8 0).cells (GC-(b.length+c.length))):=⟨_,rfl⟩
   rw[<- hcur] at hrun
   have hnew:(w.drew.alloc (.cells cur 5)).heap[w.heap.size]? = some (.cells cur 5 (0,0)):=heap_alloc_new w.drew _
   have hbel:Below w.heap.size w (w.drew.alloc (.cells cur 5)):=((Below.refl _ w).drew).alloc (Nat.le_refl _) _
   have hEq:∀k,k<w.heap.size->(if k=w.heap.size then some o else O k)=O k:=fun k hk=>by rw[if_neg (by omega)]
   refine⟨(some ⟨w.heap.size,0,none⟩,GC),_,fun k=>if k=w.heap.size then some o else O k,?_,⟨hEq,fun g' o' hg' hge2=>?_⟩,Touch.of_below hbel,.inr ⟨w.heap.size,0,cur,rfl,by simp,hnew,by rw[List.length_append];exact hge,hcm,?_,?_⟩,h.keep (fun k hk=>hbel.block k (hlo k o hk)) hEq⟩
   . unfold sl
     rw[List.length_append]
     exact hrun
   . by_cases e:g'=w.heap.size
     . subst e
       exact (aSm hnew).1
     . rw[if_neg e] at hg'
       exact absurd (hlo g' o' hg') (by omega)
   . rw[hcur,Array.size_append,size_zeroCells]
     simp[Value.cells]
     omega
   . rw[hcur,List.drop_zero,Array.toList_append]
     simp only
     rw[<- List.map_append,List.take_append_of_le_length (by simp)]
     rw[List.take_of_length_le (by simp)]
theorem RMem.append (h:RMem w D r O A d) {o:Own} {s:Sl} {b c:List UInt8} (hS:SOf w O o s b) (hpart:∀w1 O1,SOf w1 O1 o s b->Part w1 D r O1 A d o) {ax:Option Addr} {cx:Nat} (hr:Reads w (.slice ax c.length cx) c.length (c.map U)) (hl:b.length+c.length<=140737488355328) (ty:TypeId) :
 ∃s' w' O',(Builtin.append_ #[28,28] ty #[sl b s,.slice ax c.length cx]).run Tryz.prog w=.ok (sl (b++c) s') w'/\RMem w' D r O' A d/\SOf w' O' o s' (b++c)/\Touch O o w w'/\(∀k,k<w.heap.size->O' k=O k):=by
 obtain⟨s',w',O',hrun,he,ht,h1,h2⟩:=run_append_sof hS (fun g o hg=>(h.lo g o hg).2) ty Tryz.underlying28 hr hl
 refine⟨s',w',O',hrun,h.upd ht he.old (fun g o' hg=>?_) rfl rfl rfl rfl h.xlen h.plen h.slen (fun _ _ hp=>hp) (hpart w' O' h2),h1,ht,he.old⟩
 by_cases hgl:g<w.heap.size
 . have:=h.lo g o' (by rw[<- he.old g hgl];exact hg)
   have:=ht.size
   omega
 . have:=he.new g o' hg (by omega)
   have:=h.le
   omega
theorem RMem.appendGot (h:RMem w D r O A d) {i j:Nat} {p:SProc} {s:PSlot} {b c:List UInt8} {a:Sl} (hp:d.M.ps[i]? = some p) (hs:d.P[i]? = some s) (hb:p.got[j]? = some b) (ha:s.gs[j]? = some a) {ax:Option Addr} {cx:Nat} (hr:Reads w (.slice ax c.length cx) c.length (c.map U)) (hl:b.length+c.length<=140737488355328) (ty:TypeId) :
 ∃s' w' O',(Builtin.append_ #[28,28] ty #[sl b a,.slice ax c.length cx]).run Tryz.prog w=.ok (sl (b++c) s') w'/\RMem w' D r O' A d/\SOf w' O' (.got i j) s' (b++c)/\Touch O (.got i j) w w'/\(∀k,k<w.heap.size->O' k=O k):=
 h.append (h.part (.got i j) p s b a hp hs hb ha) (fun w1 O1 h1 p' s' b' a' hp' hs' hb' ha'=>by
  rw[hp] at hp';injection hp' with e1;subst e1
  rw[hs] at hs';injection hs' with e2;subst e2
  rw[hb] at hb';injection hb' with e3;subst e3
  rw[ha] at ha';injection ha' with e4;subst e4
  exact h1) hr hl ty
theorem RMem.appendOut (h:RMem w D r O A d) {i j:Nat} {p:SProc} {s:PSlot} {b c:List UInt8} {a:Sl} (hp:d.M.ps[i]? = some p) (hs:d.P[i]? = some s) (hb:p.out[j]? = some b) (ha:s.os[j]? = some a) {ax:Option Addr} {cx:Nat} (hr:Reads w (.slice ax c.length cx) c.length (c.map U)) (hl:b.length+c.length<=140737488355328) (ty:TypeId) :
 ∃s' w' O',(Builtin.append_ #[28,28] ty #[sl b a,.slice ax c.length cx]).run Tryz.prog w=.ok (sl (b++c) s') w'/\RMem w' D r O' A d/\SOf w' O' (.out i j) s' (b++c)/\Touch O (.out i j) w w'/\(∀k,k<w.heap.size->O' k=O k):=
 h.append (h.part (.out i j) p s b a hp hs hb ha) (fun w1 O1 h1 p' s' b' a' hp' hs' hb' ha'=>by
  rw[hp] at hp';injection hp' with e1;subst e1
  rw[hs] at hs';injection hs' with e2;subst e2
  rw[hb] at hb';injection hb' with e3;subst e3
  rw[ha] at ha';injection ha' with e4;subst e4
  exact h1) hr hl ty
theorem RMem.appendSunk (h:RMem w D r O A d) {c:List UInt8} {ax:Option Addr} {cx:Nat} (hr:Reads w (.slice ax c.length cx) c.length (c.map U)) (hl:d.M.sunk.length+c.length<=140737488355328) (ty:TypeId) :
 ∃s' w' O',(Builtin.append_ #[28,28] ty #[sl d.M.sunk d.sS,.slice ax c.length cx]).run Tryz.prog w=.ok (sl (d.M.sunk++c) s') w'/\RMem w' D r O' A d/\SOf w' O' .sunk s' (d.M.sunk++c)/\Touch O .sunk w w'/\(∀k,k<w.heap.size->O' k=O k):=
 h.append (h.part .sunk) (fun w1 O1 h1=>h1) hr hl ty
end
end Go.Proofs.YtllgglolcgdehaaGreatDoor
namespace Go.Gs
open Go.RowKit
set_option linter.unusedVariables false
theorem itoa_len6 (n:Nat) (h:n<=999999):(Lib.itoa (n:Int)).length<=6:=by
 unfold Lib.itoa
 rw[if_neg (by omega)]
 exact decDigits_len 5 _ (by simp;omega)
theorem made_len6 (c:Cmd) (h:chk c=0) (ls:List (List UInt8)) (hl:ls.length<=999999):(ended (made c ls)).length<=(ended ls).length+7:=by
 have hk:=chk_kinds c h
 by_cases e8:c.kind=8
 . rw[made8 c e8];have:=itoa_len6 ls.length hl;simp[ended];omega
 have:c.kind=1\/c.kind=2\/c.kind=3\/c.kind=4\/c.kind=5\/c.kind=6\/c.kind=7\/c.kind=9\/c.kind=10:=by omega
 rcases this with e | e | e | e | e | e | e | e | e
 . rw[made1 c e];have:=ended_len_sub (List.filter_sublist (p:=fun s=>Lib.contains s c.word) (l:=ls));omega
 . rw[made2 c e];have:=ended_len_sub (List.filter_sublist (p:=fun s=>!Lib.contains s c.word) (l:=ls));omega
 . rw[made3 c e];have:=ended_len_map (swapOf (c.word.getD 0 0) (c.word.getD 1 0)) (fun s=>by simp[swapOf]) ls;omega
 . rw[made4 c e];have:=ended_len_map (fieldOf c.n) (fieldOf_len c.n) ls;omega
 . rw[made5 c e];have:=ended_len_map List.reverse (fun s=>by simp) ls;omega
 . rw[made6 c e];have:=ended_len_perm (sortOf_perm ls);omega
 . rw[made7 c e];have:=ended_len_sub (compact_sub ls);omega
 . rw[made9 c e];have:=ended_len_sub (List.take_sublist c.n.toNat ls);omega
 . rw[made10 c e];have:=ended_len_sub (List.drop_sublist (ls.length-c.n.toNat) ls);omega
theorem joined_len6 (how:Int) (c:Cmd) (hc:how=4->chk c=0) (ps:List (List (List UInt8))) (hl:ps.flatten.length<=999999) (h5:ps.length<=5):(ended (joined how c ps)).length<=(ended ps.flatten).length+7:=by
 unfold joined
 split
 . have:=ended_len_perm (mergeOf_perm ps);omega
 .
  split
  . have h1:=sumOf_le ps
    have h2:=itoa_len6 (sumOf ps) (by omega)
    simp[ended]
    omega
  . split
    . rename_i h4
      have:=made_len6 c (hc h4) ps.flatten hl
      omega
    . omega
theorem parts_upto (ls:List (List UInt8)) (p:Nat):∀m,m<=p->(((List.range m).map (fun k=>ended ((ls.take ((k+1)*ls.length / p)).drop (k*ls.length / p)))).flatten)=ended (ls.take (m*ls.length / p)):=by
 intro m
 induction m with
 | zero=>intro _;simp[ended]
 | succ m ih=>
  intro h
  have hle:m*ls.length / p<=(m+1)*ls.length / p:=Nat.div_le_div_right (Nat.mul_le_mul_right _ (by omega))
  rw[List.range_succ,List.map_append,List.flatten_append,ih (by omega)]
  simp only[List.map_cons,List.map_nil,List.flatten_cons,List.flatten_nil,List.append_nil]
  rw[<- ended_append]
  congr 1
  have e:=List.take_append_drop (m*ls.length / p) (ls.take ((m+1)*ls.length / p))
  rw[List.take_take,Nat.min_eq_left hle] at e
  exact e
theorem parts_whole (bs:List UInt8) (p:Nat) (hp:0<p):((List.range p).map (partOf bs p)).flatten=ended (lines bs):=by
 have:=parts_upto (lines bs) p p (Nat.le_refl _)
 rw[Nat.mul_div_cancel_left _ hp,List.take_length] at this
 exact this
theorem node_kinds {n:SNode} (h:nodeChk n=0):nodeUsed n=0/\mayHave n.kind n.ins.length=true/\hasUnused n=false:=by
 unfold nodeChk at h
 by_cases h0:nodeUsed n=0
 .
  rw[if_neg (by simp[h0])] at h
  by_cases h1:(!mayHave n.kind n.ins.length || hasUnused n)=true
  . rw[if_pos h1] at h;cases h
  . simp at h1
    exact⟨h0,h1.1,h1.2⟩
 . rw[if_pos h0] at h;exact absurd h h0
theorem used_kinds {n:SNode} (h:nodeUsed n=0):((n.kind=1\/n.kind=5)/\isWord n.file=true)\/(n.kind=2/\1<=n.wide/\n.wide<=5)\/(n.kind=3/\chk n.c=0)\/(n.kind=4/\jchk n.how n.c=0):=by
 unfold nodeUsed at h
 by_cases h1:n.kind=1\/n.kind=5
 . rw[if_pos h1] at h
   cases hw:isWord n.file with
   | true=>exact .inl ⟨h1,rfl⟩
   | false=>rw[hw] at h;cases h
 .
  rw[if_neg h1] at h
  by_cases h2:n.kind=2
  . rw[if_pos h2] at h
    by_cases hr:n.wide<1\/5<n.wide
    . rw[if_pos hr] at h;cases h
    . exact .inr (.inl ⟨h2,by omega,by omega⟩)
  .
   rw[if_neg h2] at h
   by_cases h3:n.kind=3
   . rw[if_pos h3] at h
     exact .inr (.inr (.inl ⟨h3,h⟩))
   . rw[if_neg h3] at h
     by_cases h4:n.kind=4
     . rw[if_pos h4] at h
       exact .inr (.inr (.inr ⟨h4,h⟩))
     . rw[if_neg h4] at h;cases h
theorem flat_sum (bss:List (List UInt8)):bss.flatten.length=(bss.map List.length).sum:=by
 induction bss with
 | nil=>rfl
 | cons b r ih=>simp[ih]
theorem flat_one (a:List UInt8):([a]:List (List UInt8)).flatten.length=a.length:=by simp
theorem nodeMade_len {n:SNode} (h:nodeChk n=0) (fs:List SFile) (hf:∀f∈fs,f.b.length<=4000) (ins:List (List UInt8)) (hi:ins.length=n.ins.length) (hl:ins.flatten.length<=900000) :
 (nodeMade n fs ins).flatten.length<=ins.flatten.length+4020:=by
 obtain⟨h1,h2,_⟩:=node_kinds h
 unfold nodeMade
 rcases used_kinds h1 with ⟨h3 | h3,_⟩ | ⟨h3,h4,h5⟩ | ⟨h3,h4⟩ | ⟨h3,h4⟩
 .
  rw[if_pos h3]
  have e1:=ended_lines (fileOf fs n.file)
  have e2:(fileOf fs n.file).length<=4000:=by
   unfold fileOf
   cases hq:fs.find? (fun f=>f.name == n.file) with
   | none=>simp
   | some f=>exact hf f (List.mem_of_find?_eq_some hq)
  rw[flat_one]
  omega
 . rw[if_neg (by omega),if_neg (by omega),if_neg (by omega),if_neg (by omega)]
   simp
 .
  rw[if_neg (by omega),if_pos h3,parts_whole _ _ (by omega)]
  have e1:=ended_lines (ins.head?.getD [])
  have e2:(ins.head?.getD []).length<=ins.flatten.length:=by
   cases ins with
   | nil=>simp
   | cons a r=>simp
  omega
 .
  rw[if_neg (by omega),if_neg (by omega),if_pos h3]
  have e1:=ended_lines (ins.head?.getD [])
  have e2:(ins.head?.getD []).length<=ins.flatten.length:=by
   cases ins with
   | nil=>simp
   | cons a r=>simp
  have e3:=made_len6 n.c h4 (lines (ins.head?.getD [])) (by have:=lines_length (ins.head?.getD []);omega)
  rw[flat_one]
  omega
 .
  rw[if_neg (by omega),if_neg (by omega),if_neg (by omega),if_pos h3]
  have h5:ins.length<=5:=by
   rw[hi]
   unfold mayHave at h2
   rw[if_neg (by omega),if_pos h3] at h2
   exact (of_decide_eq_true h2).2
  have e1:=joined_len6 n.how n.c (jchk_chk h4) (ins.map lines) (by have:=flat_lines_count ins;omega) (by simpa using h5)
  have e2:=flat_lines_len ins
  rw[flat_one]
  omega
theorem ins_facts (ahead:List SNode):∀(ps t:List (Int × Int)),(insChk ahead ps t).1=0->(insChk ahead ps t).2=t++ps/\(∀p∈ps,portOk ahead p=true/\p∉t)/\ps.Nodup
 | [],t,_=>by simp[insChk]
 | p::r,t,h=>by
  unfold insChk at h ⊢
  by_cases h1:portOk ahead p=false
  . rw[if_pos h1] at h;cases h
  .
   rw[if_neg h1] at h ⊢
   by_cases h2:p∈t
   . rw[if_pos h2] at h;cases h
   .
    rw[if_neg h2] at h ⊢
    obtain⟨e1,e2,e3⟩:=ins_facts ahead r (t++[p]) h
    refine⟨by rw[e1];simp,?_,?_⟩
    . intro q hq
      rcases List.mem_cons.1 hq with rfl | hq
      . exact⟨by simpa using h1,h2⟩
      . have:=e2 q hq
        exact⟨this.1,fun hm=>this.2 (by simp[hm])⟩
    . rw[List.nodup_cons]
      exact⟨fun hm=>(e2 p hm).2 (by simp),e3⟩
theorem port_nat {ns:List SNode} {p:Int × Int} (h:portOk ns p=true):∃(i k:Nat) (n:SNode),p=(↑i,↑k)/\ns[i]? = some n/\(k:Int)<nouts n:=by
 unfold portOk at h
 simp only[Bool.and_eq_true,decide_eq_true_eq] at h
 obtain⟨⟨⟨h1,h2⟩,h3⟩,h4⟩:=h
 refine⟨p.1.toNat,p.2.toNat,?_⟩
 cases hn:ns[p.1.toNat]? with
 | none=>rw[hn] at h4;cases h4
 | some n=>
  rw[hn] at h4
  refine⟨n,Prod.ext (by simp;omega) (by simp;omega),rfl,?_⟩
  have:p.2<nouts n:=by simpa using h4
  omega
theorem outsL_len (fs:List SFile):∀(ns:List SNode) (acc:List (List (List UInt8))),(outsL fs acc ns).length=acc.length+ns.length
 | [],acc=>rfl
 | n::r,acc=>by
  show (outsL fs _ r).length=_
  rw[outsL_len fs r]
  simp
  omega
theorem outsL_append (fs:List SFile):∀(a b:List SNode) (acc:List (List (List UInt8))),outsL fs acc (a++b)=outsL fs (outsL fs acc a) b
 | [],b,acc=>rfl
 | n::r,b,acc=>outsL_append fs r b _
theorem outsL_keep (fs:List SFile):∀(ns:List SNode) (acc:List (List (List UInt8))) (i:Nat),i<acc.length->(outsL fs acc ns)[i]? = acc[i]?
 | [],acc,i,h=>rfl
 | n::r,acc,i,h=>by
  show (outsL fs _ r)[i]? = _
  rw[outsL_keep fs r _ i (by simp;omega),List.getElem?_append_left h]
theorem outs_take (fs:List SFile) (ns:List SNode) (k:Nat) {n:SNode} (h:ns[k]? = some n):outsL fs [] (ns.take (k+1))=outsL fs [] (ns.take k)++[nodeMade n fs (n.ins.map (portAt (outsL fs [] (ns.take k))))]:=by
 rw[List.take_add_one,h,Option.toList_some,outsL_append]
 rfl
theorem portAt_take (fs:List SFile) (ns:List SNode) (i:Nat) {p:Int × Int} (h0:0<=p.1) (h:p.1<i) (hi:i<=ns.length):portAt (outsL fs [] ns) p=portAt (outsL fs [] (ns.take i)) p:=by
 unfold portAt
 rw[<- List.take_append_drop i ns,outsL_append,outsL_keep]
 . rw[List.take_append_drop]
 . rw[outsL_len,List.length_take];simp;omega
theorem nodeMade_count {n:SNode} (h:nodeChk n=0) (fs:List SFile) (ins:List (List UInt8)):((nodeMade n fs ins).length:Int)=nouts n:=by
 obtain⟨h1,_,_⟩:=node_kinds h
 unfold nodeMade nouts
 rcases used_kinds h1 with ⟨h3 | h3,_⟩ | ⟨h3,h4,h5⟩ | ⟨h3,h4⟩ | ⟨h3,h4⟩
 . rw[if_pos h3,if_neg (by omega),if_neg (by omega)];rfl
 . rw[if_neg (by omega),if_neg (by omega),if_neg (by omega),if_neg (by omega),if_neg (by omega),if_pos h3];rfl
 . rw[if_neg (by omega),if_pos h3,if_pos h3]
   simp
   omega
 . rw[if_neg (by omega),if_neg (by omega),if_pos h3,if_neg (by omega),if_neg (by omega)];rfl
 . rw[if_neg (by omega),if_neg (by omega),if_neg (by omega),if_pos h3,if_neg (by omega),if_neg (by omega)];rfl
abbrev Sizes:=List ((Int × Int) × Nat)
def Sizes.sum (L:Sizes):Nat:=(L.map (·.2)).sum
theorem Sizes.sum_append (a b:Sizes):Sizes.sum (a++b)=Sizes.sum a+Sizes.sum b:=by simp[Sizes.sum]
theorem sizes_one (p:Int × Int) (s:Nat):∀(L:Sizes),(p,s)∈L->Sizes.sum (L.filter (fun x=>x.1 != p))+s<=Sizes.sum L
 | [],h=>by simp at h
 | x::r,h=>by
  have hr:Sizes.sum (r.filter (fun x=>x.1 != p))<=Sizes.sum r:=by
   clear h
   induction r with
   | nil=>simp[Sizes.sum]
   | cons y q ih=>
    rw[List.filter_cons]
    split
    . simp only[Sizes.sum,List.map_cons,List.sum_cons] at ih ⊢;omega
    . simp only[Sizes.sum,List.map_cons,List.sum_cons] at ih ⊢;omega
  rcases List.mem_cons.1 h with rfl | h
  . rw[List.filter_cons,if_neg (by simp)]
    simp only[Sizes.sum,List.map_cons,List.sum_cons] at hr ⊢
    omega
  . have ih:=sizes_one p s r h
    rw[List.filter_cons]
    split
    . simp only[Sizes.sum,List.map_cons,List.sum_cons] at ih ⊢;omega
    . simp only[Sizes.sum,List.map_cons,List.sum_cons] at ih ⊢;omega
theorem sizes_many (f:Int × Int->Nat):∀(ps:List (Int × Int)) (L:Sizes),ps.Nodup->(∀p∈ps,(p,f p)∈L) ->
 ∃L':Sizes,Sizes.sum L'+(ps.map f).sum<=Sizes.sum L /\ ∀x∈L,x.1∉ps->x∈L'
 | [],L,_,_=>⟨L,by simp,fun x h _=>h⟩
 | p::r,L,hn,h=>by
  rw[List.nodup_cons] at hn
  have h1:=sizes_one p (f p) L (h p (by simp))
  obtain⟨L',h2,h3⟩:=sizes_many f r (L.filter (fun x=>x.1 != p)) hn.2 (fun q hq=>by
   rw[List.mem_filter]
   refine⟨h q (by simp[hq]),?_⟩
   have:q≠p:=fun e=>hn.1 (e ▸ hq)
   simpa using this)
  refine⟨L',by simp only[List.map_cons,List.sum_cons];omega,fun x hx hp=>?_⟩
  rw[List.mem_cons,not_or] at hp
  exact h3 x (List.mem_filter.2 ⟨hx,by simpa using hp.1⟩) hp.2
theorem sizes_new (k:Nat) (outs:List (List UInt8)):Sizes.sum ((List.range outs.length).map (fun (j:Nat)=>(((k:Int),(j:Int)),(outs[j]?.getD []).length)))=outs.flatten.length:=by
 unfold Sizes.sum
 rw[List.map_map,flat_sum]
 congr 1
 apply List.ext_getElem?
 intro i
 by_cases hi:i<outs.length
 . simp[hi]
 . simp[hi]
def Ahead (fs:List SFile) (ns:List SNode) (k:Nat):Prop:=
 ∃(tk:List (Int × Int)) (L:Sizes),gchkL [] ns []=gchkL (ns.take k) (ns.drop k) tk/\Sizes.sum L<=4020*k /\
  ∀p,portOk (ns.take k) p=true->p∉tk->(p,(portAt (outsL fs [] (ns.take k)) p).length)∈L
theorem gchkL_cons {ahead r:List SNode} {n:SNode} {t:List (Int × Int)} (h:(gchkL ahead (n::r) t).1=0) :
 nodeChk n=0/\(insChk ahead n.ins t).1=0/\(r.isEmpty=decide (n.kind=5))/\gchkL ahead (n::r) t=gchkL (ahead++[n]) r (insChk ahead n.ins t).2:=by
 have h0:=h
 unfold gchkL at h
 by_cases h1:nodeChk n≠0
 . rw[if_pos h1] at h;exact absurd h h1
 .
  rw[if_neg h1] at h
  by_cases h2:(insChk ahead n.ins t).1≠0
  . rw[if_pos h2] at h;exact absurd h h2
  .
   rw[if_neg h2] at h
   by_cases h3:r.isEmpty≠decide (n.kind=5)
   . rw[if_pos h3] at h;cases h
   . refine⟨by simpa using h1,by simpa using h2,by simpa using h3,?_⟩
     conv=>lhs;unfold gchkL
     rw[if_neg h1,if_neg h2,if_neg h3]
theorem drop_node {ns:List SNode} {k:Nat} {n:SNode} (h:ns[k]? = some n):ns.drop k=n::ns.drop (k+1):=by
 obtain⟨hk,e⟩:=gSm h
 rw[<- e,<- List.drop_eq_getElem_cons hk]
theorem take_node {ns:List SNode} {k:Nat} {n:SNode} (h:ns[k]? = some n):ns.take (k+1)=ns.take k++[n]:=by
 rw[List.take_add_one,h,Option.toList_some]
theorem ahead_ins {fs:List SFile} {ns:List SNode} {k:Nat} {n:SNode} (hg:(gchkL [] ns []).1=0) (ha:Ahead fs ns k) (hn:ns[k]? = some n) :
 nodeChk n=0/\(∀p∈n.ins,portOk (ns.take k) p=true)/\((ns.drop (k+1)).isEmpty=decide (n.kind=5))/\(n.ins.map (portAt (outsL fs [] (ns.take k)))).flatten.length<=4020*k:=by
 obtain⟨tk,L,h1,h2,h3⟩:=ha
 rw[h1,drop_node hn] at hg
 obtain⟨e1,e2,e3,e4⟩:=gchkL_cons hg
 obtain⟨f1,f2,f3⟩:=ins_facts _ _ _ e2
 refine⟨e1,fun p hp=>(f2 p hp).1,e3,?_⟩
 obtain⟨L',g1,_⟩:=sizes_many (fun p=>(portAt (outsL fs [] (ns.take k)) p).length) n.ins L f3 (fun p hp=>h3 p (f2 p hp).1 (f2 p hp).2)
 rw[flat_sum,List.map_map]
 have:(List.map (List.length ∘ portAt (outsL fs [] (ns.take k))) n.ins).sum=(List.map (fun p=>(portAt (outsL fs [] (ns.take k)) p).length) n.ins).sum:=rfl
 omega
theorem ahead_start (fs:List SFile) (ns:List SNode):Ahead fs ns 0:=⟨[],[],by simp,by simp[Sizes.sum],fun p h=>by
 obtain⟨i,j,n,_,hn,_⟩:=port_nat h
 simp at hn⟩
theorem ahead_step {fs:List SFile} {ns:List SNode} {k:Nat} {n:SNode} (hf:∀f∈fs,f.b.length<=4000) (h60:ns.length<=60) (hg:(gchkL [] ns []).1=0) (ha:Ahead fs ns k) (hn:ns[k]? = some n):Ahead fs ns (k+1):=by
 have hk:k<ns.length:=(gSm hn).1
 obtain⟨q1,q2,q3,q4⟩:=ahead_ins hg ha hn
 obtain⟨tk,L,h1,h2,h3⟩:=ha
 have hg0:=hg
 rw[h1,drop_node hn] at hg
 obtain⟨e1,e2,e3,e4⟩:=gchkL_cons hg
 obtain⟨f1,f2,f3⟩:=ins_facts _ _ _ e2
 obtain⟨L',g1,g2⟩:=sizes_many (fun p=>(portAt (outsL fs [] (ns.take k)) p).length) n.ins L f3 (fun p hp=>h3 p (f2 p hp).1 (f2 p hp).2)
 have hml:=nodeMade_len e1 fs hf (n.ins.map (portAt (outsL fs [] (ns.take k)))) (by simp) (by omega)
 obtain⟨outs,ho⟩:∃outs,outs=nodeMade n fs (n.ins.map (portAt (outsL fs [] (ns.take k)))):=⟨_,rfl⟩
 have hcount:=nodeMade_count e1 fs (n.ins.map (portAt (outsL fs [] (ns.take k))))
 have hout:=outs_take fs ns k hn
 rw[<- ho] at hml hcount hout
 refine⟨tk++n.ins,L'++(List.range outs.length).map (fun (j:Nat)=>(((k:Int),(j:Int)),(outs[j]?.getD []).length)),?_,?_,?_⟩
 . rw[h1,drop_node hn,e4,f1,take_node hn]
 . rw[Sizes.sum_append,sizes_new]
   have hs:(n.ins.map (portAt (outsL fs [] (ns.take k)))).flatten.length=(List.map (fun p=>(portAt (outsL fs [] (ns.take k)) p).length) n.ins).sum:=by
    rw[flat_sum,List.map_map];rfl
   omega
 .
  intro p hp hpt
  rw[List.mem_append,not_or] at hpt
  obtain⟨i,j,m,rfl,hm,hj⟩:=port_nat hp
  rw[List.mem_append]
  have hik:i<(ns.take (k+1)).length:=(gSm hm).1
  rw[List.length_take] at hik
  rw[hout]
  by_cases hlt:i<k
  .
   left
   have hp':portOk (ns.take k) ((i:Int),(j:Int))=true:=by
    unfold portOk
    have hm':(ns.take k)[i]? = some m:=by
     rw[List.getElem?_take_of_lt hlt]
     rwa [List.getElem?_take_of_lt (by omega)] at hm
    simp only[Int.toNat_natCast,hm',Option.map_some,Option.getD_some,Bool.and_eq_true,decide_eq_true_eq]
    refine⟨⟨⟨by omega,?_⟩,by omega⟩,hj⟩
    rw[List.length_take]
    omega
   have hin:=h3 _ hp' hpt.1
   have hpa:portAt (outsL fs [] (ns.take k)++[outs]) ((i:Int),(j:Int))=portAt (outsL fs [] (ns.take k)) ((i:Int),(j:Int)):=by
    unfold portAt
    rw[List.getElem?_append_left (by rw[outsL_len,List.length_take];simp;omega)]
   rw[hpa]
   exact g2 _ hin hpt.2
  .
   right
   have hik':i=k:=by omega
   subst hik'
   have hmn:m=n:=by
    rw[List.getElem?_take_of_lt (by omega),hn] at hm
    injection hm with hm
    exact hm.symm
   subst hmn
   rw[List.mem_map]
   refine⟨j,List.mem_range.2 (by omega),?_⟩
   unfold portAt
   rw[List.getElem?_append_right (by rw[outsL_len,List.length_take];simp;omega),outsL_len,List.length_take,Nat.min_eq_left (by omega)]
   simp
theorem ahead_all {fs:List SFile} {ns:List SNode} (hf:∀f∈fs,f.b.length<=4000) (h60:ns.length<=60) (hg:(gchkL [] ns []).1=0):∀k,k<=ns.length->Ahead fs ns k
 | 0,_=>ahead_start fs ns
 | k+1,h=>by
  have hk:k<ns.length:=by omega
  exact ahead_step hf h60 hg (ahead_all hf h60 hg k (by omega)) (gEl hk)
theorem gchk_zero {ns:List SNode} (h:gchk ns=0):ns.length<=60/\(gchkL [] ns []).1=0/\0<ns.length/\((gchkL [] ns []).2.length:Int)=allOuts ns:=by
 unfold gchk at h
 by_cases h1:60<ns.length
 . rw[if_pos h1] at h;cases h
 .
  rw[if_neg h1] at h
  by_cases h2:(gchkL [] ns []).1≠0
  . rw[if_pos h2] at h;exact absurd h h2
  . rw[if_neg h2] at h
    by_cases h3:ns.length=0\/((gchkL [] ns []).2.length:Int)≠allOuts ns
    . rw[if_pos h3] at h;cases h
    . refine⟨by omega,by simpa using h2,by omega,?_⟩
      exact Decidable.byContradiction fun hc=>h3 (.inr hc)
theorem right_node {fs:List SFile} {ns:List SNode} (h:gchk ns=0) (hf:∀f∈fs,f.b.length<=4000) {k:Nat} {n:SNode} (hn:ns[k]? = some n) :
 nodeChk n=0/\(∀p∈n.ins,portOk (ns.take k) p=true)/\((n.kind=5) ↔ k+1=ns.length)/\(n.ins.map (portAt (outsL fs [] (ns.take k)))).flatten.length<=241200:=by
 obtain⟨h1,h2,h3,_⟩:=gchk_zero h
 have hk:k<ns.length:=(gSm hn).1
 obtain⟨q1,q2,q3,q4⟩:=ahead_ins h2 (ahead_all hf h1 h2 k (by omega)) hn
 refine⟨q1,q2,?_,by omega⟩
 constructor
 .
  intro e
  rw[decide_eq_true e] at q3
  have:(ns.drop (k+1)).length=0:=by rw[List.isEmpty_iff.1 q3];rfl
  rw[List.length_drop] at this
  omega
 . intro e
   have:(ns.drop (k+1)).isEmpty=true:=by rw[List.isEmpty_iff];exact List.drop_eq_nil_of_le (by omega)
   rw[this] at q3
   exact of_decide_eq_true q3.symm
theorem outs_get (fs:List SFile) (ns:List SNode) {i k:Nat} {m:SNode} (hi:ns[i]? = some m) (hik:i<k) (hk:k<=ns.length):(outsL fs [] (ns.take k))[i]? = some (nodeMade m fs (m.ins.map (portAt (outsL fs [] (ns.take i))))):=by
 have h1:ns.take k=ns.take (i+1)++(ns.take k).drop (i+1):=by
  have:=List.take_append_drop (i+1) (ns.take k)
  rw[List.take_take,Nat.min_eq_left (by omega)] at this
  exact this.symm
 have hl:(outsL fs [] (ns.take i)).length=i:=by
  have:i<ns.length:=(gSm hi).1
  rw[outsL_len,List.length_take]
  simp
  omega
 rw[h1,outsL_append,outsL_keep]
 . rw[outs_take fs ns i hi,List.getElem?_append_right (by omega),hl]
   simp
 . rw[outs_take fs ns i hi,List.length_append,hl]
   simp
theorem port_there {fs:List SFile} {ns:List SNode} (h:gchk ns=0) (hf:∀f∈fs,f.b.length<=4000) {j k:Nat} (hjk:j<=k) (hk:k<=ns.length) {p:Int × Int} (hp:portOk (ns.take j) p=true) :
 ∃(i q:Nat) (o:List (List UInt8)) (b:List UInt8),p=((i:Int),(q:Int))/\(outsL fs [] (ns.take k))[i]? = some o/\o[q]? = some b:=by
 obtain⟨i,q,m,rfl,hm,hq⟩:=port_nat hp
 have hij:i<(ns.take j).length:=(gSm hm).1
 rw[List.length_take] at hij
 have hm':ns[i]? = some m:=by rwa [List.getElem?_take_of_lt (by omega)] at hm
 have hr:=(right_node h hf hm').1
 have hc:=nodeMade_count hr fs (m.ins.map (portAt (outsL fs [] (ns.take i))))
 have hql:q<(nodeMade m fs (m.ins.map (portAt (outsL fs [] (ns.take i))))).length:=by omega
 exact⟨i,q,_,_,rfl,outs_get fs ns hm' (by omega) hk,gEl hql⟩
theorem port_same {fs:List SFile} {ns:List SNode} {j:Nat} (hj:j<=ns.length) {p:Int × Int} (hp:portOk (ns.take j) p=true):portAt (outsL fs [] ns) p=portAt (outsL fs [] (ns.take j)) p:=by
 obtain⟨i,q,m,rfl,hm,hq⟩:=port_nat hp
 have hij:i<(ns.take j).length:=(gSm hm).1
 rw[List.length_take] at hij
 exact portAt_take fs ns j (by simp) (by simp;omega) hj
theorem right_ins {n:SNode} (h:nodeChk n=0):n.ins.length<=5/\(n.kind=2\/n.kind=3\/n.kind=5->n.ins.length=1):=by
 obtain⟨h1,h2,_⟩:=node_kinds h
 unfold mayHave at h2
 by_cases g1:n.kind=1
 . rw[if_pos g1] at h2;have:=of_decide_eq_true h2;exact⟨by omega,by omega⟩
 . rw[if_neg g1] at h2
   by_cases g4:n.kind=4
   . rw[if_pos g4] at h2;exact⟨(of_decide_eq_true h2).2,by omega⟩
   . rw[if_neg g4] at h2;have:=of_decide_eq_true h2;exact⟨by omega,fun _=>this⟩
theorem evalS_bad {ns:List SNode} {fs:List SFile} (h:gchk ns≠0):evalS ns fs=([],gchk ns):=by unfold evalS;rw[if_pos h]
theorem evalS_files {ns:List SNode} {fs:List SFile} (h:gchk ns=0) (hf:fchk fs≠0):evalS ns fs=([],fchk fs):=by unfold evalS;rw[if_neg (by simp[h]),if_pos hf]
theorem evalS_ok {ns:List SNode} {fs:List SFile} (h:gchk ns=0) (hf:fchk fs=0):evalS ns fs=(sunk ns fs,0):=by unfold evalS;rw[if_neg (by simp[h]),if_neg (by simp[hf])]
theorem sunk_last {ns:List SNode} {fs:List SFile} {n:SNode} (h:ns[ns.length-1]? = some n):sunk ns fs=portAt (outsL fs [] ns) (n.ins.head?.getD (0,0)):=by
 unfold sunk
 rw[List.getLast?_eq_getElem?,h]
 rfl
theorem sub_len {α:Type} [DecidableEq α]:∀(t P:List α),t.Nodup->(∀x∈t,x∈P)->t.length<=P.length
 | [],P,_,_=>Nat.zero_le _
 | x::r,P,hn,hs=>by
  rw[List.nodup_cons] at hn
  have hx:x∈P:=hs x (by simp)
  have ih:=sub_len r (P.erase x) hn.2 (fun y hy=>by
   have hne:y≠x:=fun e=>hn.1 (e ▸ hy)
   exact (List.mem_erase_of_ne hne).2 (hs y (by simp[hy])))
  rw[List.length_erase_of_mem hx] at ih
  have:0<P.length:=List.length_pos_of_mem hx
  simp
  omega
theorem same_len {α:Type} [DecidableEq α] {t P:List α} (ht:t.Nodup) (hP:P.Nodup) (hs:∀x∈t,x∈P):t.length=P.length ↔ ∀x∈P,x∈t:=by
 constructor
 .
  intro h x hx
  exact Decidable.byContradiction fun hc=>by
   have:=sub_len (x::t) P (List.nodup_cons.2 ⟨hc,ht⟩) (fun y hy=>by rcases List.mem_cons.1 hy with rfl | hy;exact hx;exact hs y hy)
   simp at this
   omega
 . intro h
   have h1:=sub_len t P ht hs
   have h2:=sub_len P t hP h
   omega
def portsFrom:Nat->List SNode->List (Int × Int)
 | _,[]=>[]
 | i,n::r=>(List.range (nouts n).toNat).map (fun (k:Nat)=>((i:Int),(k:Int)))++portsFrom (i+1) r
theorem portsFrom_mem:∀(ns:List SNode) (i:Nat) (p:Int × Int),p∈portsFrom i ns ↔ ∃(j k:Nat) (n:SNode),ns[j]? = some n/\(k:Int)<nouts n/\p=(((i+j:Nat):Int),(k:Int))
 | [],i,p=>by simp[portsFrom]
 | m::r,i,p=>by
  unfold portsFrom
  rw[List.mem_append,portsFrom_mem r (i+1) p]
  constructor
  . rintro (h | ⟨j,k,n,h1,h2,rfl⟩)
    . obtain⟨k,hk,rfl⟩:=List.mem_map.1 h
      have:=List.mem_range.1 hk
      exact⟨0,k,m,rfl,by omega,by simp⟩
    . exact⟨j+1,k,n,by simpa using h1,h2,by congr 2;omega⟩
  .
   rintro ⟨j,k,n,h1,h2,rfl⟩
   cases j with
   | zero=>
    left
    simp at h1
    subst h1
    exact List.mem_map.2 ⟨k,List.mem_range.2 (by omega),by simp⟩
   | succ j=>exact .inr ⟨j,k,n,by simpa using h1,h2,by congr 2;omega⟩
theorem portsFrom_nodup:∀(ns:List SNode) (i:Nat),(portsFrom i ns).Nodup
 | [],i=>List.nodup_nil
 | m::r,i=>by
  unfold portsFrom
  rw[List.nodup_append]
  refine⟨?_,portsFrom_nodup r (i+1),?_⟩
  . rw[List.nodup_iff_pairwise_ne,List.pairwise_map]
    refine List.Pairwise.imp ?_ (List.nodup_iff_pairwise_ne.1 List.nodup_range)
    intro a b hab e
    injection e with _ e
    exact hab (by omega)
  . intro x hx y hy e
    obtain⟨k,_,rfl⟩:=List.mem_map.1 hx
    obtain⟨j,k2,n,_,_,rfl⟩:=(portsFrom_mem r (i+1) y).1 hy
    injection e with e _
    omega
theorem portsFrom_len:∀(ns:List SNode) (i:Nat),(∀n∈ns,0<=nouts n)->((portsFrom i ns).length:Int)=allOuts ns
 | [],i,_=>rfl
 | m::r,i,h=>by
  unfold portsFrom allOuts
  rw[List.length_append,List.length_map,List.length_range,List.map_cons,List.sum_cons]
  have ih:=portsFrom_len r (i+1) (fun n hn=>h n (by simp[hn]))
  unfold allOuts at ih
  have:=h m (by simp)
  omega
theorem portOk_more {a b:List SNode} {p:Int × Int} (h:portOk a p=true):portOk (a++b) p=true:=by
 obtain⟨i,k,n,rfl,hn,hk⟩:=port_nat h
 have hi:i<a.length:=(gSm hn).1
 unfold portOk
 simp only[Int.toNat_natCast,List.getElem?_append_left hi,hn,Option.map_some,Option.getD_some,Bool.and_eq_true,decide_eq_true_eq]
 refine⟨⟨⟨by omega,?_⟩,by omega⟩,hk⟩
 rw[List.length_append]
 omega
theorem taken_all:∀(rest ahead:List SNode) (t:List (Int × Int)),(gchkL ahead rest t).1=0->t.Nodup->(∀p∈t,portOk ahead p=true)->(gchkL ahead rest t).2.Nodup/\(∀p∈(gchkL ahead rest t).2,portOk (ahead++rest) p=true) /\ ∀n∈rest,nodeChk n=0
 | [],ahead,t,_,h1,h2=>by
  refine⟨by simpa[gchkL] using h1,?_,by intro n hn;cases hn⟩
  intro p hp
  rw[List.append_nil]
  exact h2 p (by simpa[gchkL] using hp)
 | n::r,ahead,t,h,h1,h2=>by
  obtain⟨e1,e2,e3,e4⟩:=gchkL_cons h
  obtain⟨f1,f2,f3⟩:=ins_facts _ _ _ e2
  rw[e4,f1] at h ⊢
  obtain⟨g1,g2,g3⟩:=taken_all r (ahead++[n]) (t++n.ins) h (by
   rw[List.nodup_append]
   exact⟨h1,f3,fun x hx y hy e=>(f2 y hy).2 (e ▸ hx)⟩) (by
   intro p hp
   rcases List.mem_append.1 hp with hp | hp
   . exact portOk_more (h2 p hp)
   . exact portOk_more (f2 p hp).1)
  refine⟨g1,by simpa using g2,?_⟩
  intro m hm
  rcases List.mem_cons.1 hm with rfl | hm
  . exact e1
  . exact g3 m hm
theorem nouts_nonneg {n:SNode} (h:nodeChk n=0):0<=nouts n:=by
 have:=nodeMade_count h [] []
 omega
theorem taken_iff {ns:List SNode} {t:List (Int × Int)} (h:gchkL [] ns []=(0,t)):(t.length:Int)=allOuts ns ↔ ∀(i k:Nat) (n:SNode),ns[i]? = some n->(k:Int)<nouts n->((i:Int),(k:Int))∈t:=by
 obtain⟨g1,g2,g3⟩:=taken_all ns [] [] (by rw[h]) List.nodup_nil (by intro p hp;cases hp)
 rw[h] at g1 g2
 simp only[List.nil_append] at g1 g2
 have hl:=portsFrom_len ns 0 (fun n hn=>nouts_nonneg (g3 n hn))
 have hsub:∀p∈t,p∈portsFrom 0 ns:=fun p hp=>by
  obtain⟨i,k,n,rfl,hn,hk⟩:=port_nat (g2 p hp)
  exact (portsFrom_mem ns 0 _).2 ⟨i,k,n,hn,hk,by simp⟩
 have key:=same_len g1 (portsFrom_nodup ns 0) hsub
 constructor
 . intro e i k n hn hk
   exact key.1 (by omega) _ ((portsFrom_mem ns 0 _).2 ⟨i,k,n,hn,hk,by simp⟩)
 .
  intro e
  have:=key.2 (fun p hp=>by
   obtain⟨j,k,n,h1,h2,rfl⟩:=(portsFrom_mem ns 0 p).1 hp
   simpa using e j k n h1 h2)
  omega
theorem allIns_append (a b:List SNode):allIns (a++b)=allIns a++allIns b:=by simp[allIns]
theorem allIns_one (n:SNode):allIns [n]=n.ins:=by simp[allIns]
theorem gchkL_taken:∀(rest ahead:List SNode) (t:List (Int × Int)),(gchkL ahead rest t).1=0->gchkL ahead rest t=(0,t++allIns rest)
 | [],ahead,t,h=>by simp[gchkL,allIns]
 | n::r,ahead,t,h=>by
  obtain⟨e1,e2,e3,e4⟩:=gchkL_cons h
  obtain⟨f1,f2,f3⟩:=ins_facts _ _ _ e2
  rw[e4] at h ⊢
  rw[gchkL_taken r _ _ h,f1]
  simp[allIns]
theorem firstIn_zero (ns:List SNode):firstIn ns 0=0:=by simp[firstIn,allIns]
theorem firstIn_succ {ns:List SNode} {i:Nat} {n:SNode} (h:ns[i]? = some n):firstIn ns (i+1)=firstIn ns i+n.ins.length:=by
 unfold firstIn
 rw[take_node h,allIns_append,allIns_one,List.length_append]
theorem firstIn_le {ns:List SNode} {i j:Nat} (h:i<=j):firstIn ns i<=firstIn ns j:=by
 unfold firstIn
 obtain⟨d,rfl⟩:∃d,j=i+d:=⟨j-i,by omega⟩
 rw[List.take_add,allIns_append,List.length_append]
 omega
theorem firstIn_next {ns:List SNode} {i j:Nat} {n:SNode} (h:ns[i]? = some n) (hij:i<j):firstIn ns i+n.ins.length<=firstIn ns j:=by
 rw[<- firstIn_succ h]
 exact firstIn_le hij
theorem firstIn_inj {ns:List SNode} {i j a b:Nat} {n m:SNode} (hn:ns[i]? = some n) (hm:ns[j]? = some m) (ha:a<n.ins.length) (hb:b<m.ins.length) (e:firstIn ns i+a=firstIn ns j+b):i=j/\a=b:=by
 rcases Nat.lt_trichotomy i j with h | h | h
 . have:=firstIn_next hn h;omega
 . subst h;exact⟨rfl,by omega⟩
 . have:=firstIn_next hm h;omega
theorem allIns_at {ns:List SNode} {i j:Nat} {n:SNode} (h:ns[i]? = some n) (hj:j<n.ins.length):(allIns ns)[firstIn ns i+j]? = n.ins[j]?:=by
 have e:allIns ns=allIns (ns.take i)++(n.ins++allIns (ns.drop (i+1))):=by
  conv=>lhs;rw[show ns=ns.take i++ns.drop i from (List.take_append_drop i ns).symm,drop_node h]
  rw[allIns_append,show n::ns.drop (i+1)=[n]++ns.drop (i+1) from rfl,allIns_append,allIns_one]
 unfold firstIn
 rw[e,List.getElem?_append_right (by omega),show (allIns (ns.take i)).length+j-(allIns (ns.take i)).length=j by omega,List.getElem?_append_left hj]
theorem allIns_len {ns:List SNode} {i j:Nat} {n:SNode} (h:ns[i]? = some n) (hj:j<n.ins.length):firstIn ns i+j<(allIns ns).length:=by
 have:=allIns_at h hj
 rw[gEl hj] at this
 exact (gSm this).1
theorem pipe_owner:∀(ns:List SNode) (q:Nat),q<(allIns ns).length -> ∃i j n,ns[i]? = some n/\j<n.ins.length/\q=firstIn ns i+j:=by
 intro ns q hq
 have key:∀k,k<=ns.length->q<firstIn ns k -> ∃i j n,ns[i]? = some n/\j<n.ins.length/\q=firstIn ns i+j:=by
  intro k
  induction k with
  | zero=>intro _ h;rw[firstIn_zero] at h;omega
  | succ k ih=>
   intro hk h
   obtain⟨n,hn⟩:∃n,ns[k]? = some n:=⟨_,gEl (by omega)⟩
   rw[firstIn_succ hn] at h
   by_cases h2:q<firstIn ns k
   . exact ih (by omega) h2
   . exact⟨k,q-firstIn ns k,n,hn,by omega,by omega⟩
 exact key ns.length (Nat.le_refl _) (by unfold firstIn;rw[List.take_length];exact hq)
structure RightG (ns:List SNode):Prop where
 le60:ns.length<=60
 pos:0<ns.length
 node:∀n∈ns,nodeChk n=0
 nodup:(allIns ns).Nodup
 port:∀(i:Nat) (n:SNode),ns[i]? = some n -> ∀p∈n.ins,portOk (ns.take i) p=true
 every:∀(i k:Nat) (n:SNode),ns[i]? = some n->(k:Int)<nouts n->((i:Int),(k:Int))∈allIns ns
 sink:∀(i:Nat) (n:SNode),ns[i]? = some n->(n.kind=5 ↔ i+1=ns.length)
theorem gchkL_right:∀(rest ahead:List SNode) (t:List (Int × Int)),(gchkL ahead rest t).1=0 -> ∀(k:Nat) (n:SNode),rest[k]? = some n->(∀p∈n.ins,portOk (ahead++rest.take k) p=true)/\(n.kind=5 ↔ k+1=rest.length)
 | [],ahead,t,h,k,n,hn=>by simp at hn
 | m::r,ahead,t,h,0,n,hn=>by
  simp at hn
  subst hn
  obtain⟨e1,e2,e3,e4⟩:=gchkL_cons h
  obtain⟨f1,f2,f3⟩:=ins_facts _ _ _ e2
  refine⟨fun p hp=>by simpa using (f2 p hp).1,?_⟩
  constructor
  . intro h5
    rw[decide_eq_true h5] at e3
    rw[List.isEmpty_iff] at e3
    rw[e3];rfl
  .
   intro hl
   have:r=[]:=by
    cases r with
    | nil=>rfl
    | cons=>simp at hl
   rw[this] at e3
   exact of_decide_eq_true e3.symm
 | m::r,ahead,t,h,k+1,n,hn=>by
  obtain⟨e1,e2,e3,e4⟩:=gchkL_cons h
  rw[e4] at h
  obtain⟨h1,h2⟩:=gchkL_right r _ _ h k n (by simpa using hn)
  refine⟨fun p hp=>by simpa using h1 p hp,?_⟩
  rw[h2]
  simp
theorem right_graph {ns:List SNode} (h:gchk ns=0):RightG ns:=by
 obtain⟨h1,h2,h3,h4⟩:=gchk_zero h
 have ht:=gchkL_taken ns [] [] h2
 rw[List.nil_append] at ht
 obtain⟨a1,a2,a3⟩:=taken_all ns [] [] h2 (by simp) (by simp)
 rw[ht] at a1 h4
 refine⟨h1,h3,a3,a1,fun i n hn p hp=>?_,(taken_iff ht).1 h4,fun i n hn=>?_⟩
 . have:=(gchkL_right ns [] [] h2 i n hn).1 p hp
   simpa using this
 . exact (gchkL_right ns [] [] h2 i n hn).2
theorem RightG.src {ns:List SNode} (g:RightG ns) {r:Nat} {n:SNode} (hn:ns[r]? = some n) {j:Nat} {p:Int × Int} (hp:n.ins[j]? = some p) :
 ∃(i k:Nat) (m:SNode),p=((i:Int),(k:Int))/\i<r/\ns[i]? = some m/\(k:Int)<nouts m:=by
 obtain⟨i,k,m,e,hm,hk⟩:=port_nat (g.port r n hn p (mGt hp))
 have hi:i<(ns.take r).length:=(gSm hm).1
 rw[List.length_take] at hi
 refine⟨i,k,m,e,by omega,?_,hk⟩
 rwa [List.getElem?_take_of_lt (by omega)] at hm
theorem RightG.into {ns:List SNode} (g:RightG ns) {r j:Nat} {n:SNode} (hn:ns[r]? = some n) {p:Int × Int} (hp:n.ins[j]? = some p):intoOf ns p=firstIn ns r+j:=by
 have hj:j<n.ins.length:=(gSm hp).1
 have h1:=allIns_at hn hj
 rw[hp] at h1
 obtain⟨hq,e⟩:=gSm h1
 have:=g.nodup.idxOf_getElem _ hq
 rw[e] at this
 exact this
theorem RightG.reader {ns:List SNode} (g:RightG ns) {i k:Nat} {m:SNode} (hm:ns[i]? = some m) (hk:(k:Int)<nouts m) :
 ∃(r j:Nat) (n:SNode),ns[r]? = some n/\n.ins[j]? = some ((i:Int),(k:Int))/\i<r/\intoOf ns ((i:Int),(k:Int))=firstIn ns r+j/\firstIn ns r+j<(allIns ns).length:=by
 obtain⟨q,hq⟩:=List.getElem?_of_mem (g.every i k m hm hk)
 have hql:q<(allIns ns).length:=(gSm hq).1
 obtain⟨r,j,n,hn,hj,rfl⟩:=pipe_owner ns q hql
 rw[allIns_at hn hj] at hq
 obtain⟨i',k',m',e,hir,_,_⟩:=g.src hn hq
 simp only[Prod.mk.injEq] at e
 exact⟨r,j,n,hn,hq,by omega,g.into hn hq,hql⟩
theorem RightG.outs {ns:List SNode} (g:RightG ns) (fs:List SFile) {i:Nat} {n:SNode} (hn:ns[i]? = some n):(outsL fs [] ns)[i]? = some (nodeMade n fs (n.ins.map (portAt (outsL fs [] ns)))):=by
 have hi:i<ns.length:=(gSm hn).1
 have h1:=outs_get fs ns hn (k:=ns.length) hi (Nat.le_refl _)
 rw[List.take_length] at h1
 rw[h1]
 congr 2
 apply List.map_congr_left
 intro p hp
 exact (port_same (by omega) (g.port i n hn p hp)).symm
theorem portAt_nat (outs:List (List (List UInt8))) (i k:Nat):portAt outs ((i:Int),(k:Int))=(outs[i]?.getD [])[k]?.getD []:=by simp[portAt]
def Whol (b:List UInt8):Prop:=ended (lines b)=b
theorem whol_nil:Whol []:=by simp[Whol,lines,linesAux,ended]
theorem whol_ended (l:List (List UInt8)) (h:∀s∈l,(10:UInt8)∉s):Whol (ended l):=by unfold Whol;rw[lines_ended l h]
theorem whol_lines (b:List UInt8):Whol (ended (lines b)):=whol_ended _ (lines_noFeed b)
theorem lines_whol {a:List UInt8} (h:Whol a) (b:List UInt8):lines (a++b)=lines a++lines b:=by
 conv=>lhs;rw[<- h]
 exact lines_ended_append _ _ (lines_noFeed a)
theorem Whol.append {a b:List UInt8} (h:Whol a) (k:Whol b):Whol (a++b):=by
 unfold Whol
 rw[lines_whol h,ended_append,h,k]
theorem whol_flat:∀(l:List (List UInt8)),(∀b∈l,Whol b)->Whol l.flatten
 | [],_=>whol_nil
 | b::r,h=>by
  rw[List.flatten_cons]
  exact (h b (by simp)).append (whol_flat r (fun c hc=>h c (by simp[hc])))
theorem Whol.last {b:List UInt8} (h:Whol b) (hn:b≠[]):b.getLast hn=10:=by
 have h2:ended (lines b)≠[]:=by rw[h];exact hn
 have:=ended_last (lines b) h2
 have e:(ended (lines b)).getLast h2=b.getLast hn:=by congr 1
 rw[<- e];exact this
theorem linesAux_snoc:∀(b cur:List UInt8),ended (linesAux cur (b++[10]))=cur++b++[10]
 | [],cur=>by simp[linesAux,ended]
 | c::r,cur=>by
  rw[List.cons_append,linesAux]
  by_cases h:c=10
  . rw[if_pos h,ended_cons,linesAux_snoc r []]
    simp[h]
  . rw[if_neg h,linesAux_snoc r]
    simp
theorem whol_snoc (b:List UInt8):Whol (b++[10]):=by
 have:=linesAux_snoc b []
 simpa[Whol,lines] using this
theorem dropWhile_feed:∀(l:List UInt8),l.dropWhile (fun c=>c != 10)=[] \/ ∃r,l.dropWhile (fun c=>c != 10)=10::r
 | []=>by simp
 | c::r=>by
  rw[List.dropWhile_cons]
  by_cases h:c=10
  . subst h;right;exact⟨r,by simp⟩
  . rw[if_pos (by simpa using h)];exact dropWhile_feed r
theorem takeWhile_no:∀(l:List UInt8),(10:UInt8)∉l.takeWhile (fun c=>c != 10)
 | []=>by simp
 | c::r=>by
  rw[List.takeWhile_cons]
  by_cases h:c=10
  . subst h;simp
  . rw[if_pos (by simpa using h)]
    have:=takeWhile_no r
    simp only[List.mem_cons,not_or]
    exact⟨fun e=>h e.symm,this⟩
theorem cut_parts (b:List UInt8):b.take (cutOf b)=(b.reverse.dropWhile (fun c=>c != 10)).reverse/\b.drop (cutOf b)=(b.reverse.takeWhile (fun c=>c != 10)).reverse:=by
 have e:b=(b.reverse.dropWhile (fun c=>c != 10)).reverse++(b.reverse.takeWhile (fun c=>c != 10)).reverse:=by
  rw[<- List.reverse_append,List.takeWhile_append_dropWhile,List.reverse_reverse]
 have hl:cutOf b=(b.reverse.dropWhile (fun c=>c != 10)).reverse.length:=by simp[cutOf]
 constructor
 . conv=>lhs;rw[hl];arg 2;rw[e]
   exact List.take_left
 . conv=>lhs;rw[hl];arg 2;rw[e]
   exact List.drop_left
theorem cut_whol (b:List UInt8):Whol (b.take (cutOf b)):=by
 rw[(cut_parts b).1]
 rcases dropWhile_feed b.reverse with h | ⟨r,h⟩
 . rw[h];exact whol_nil
 . rw[h,List.reverse_cons];exact whol_snoc _
theorem cut_rest (b:List UInt8):(10:UInt8)∉b.drop (cutOf b):=by
 rw[(cut_parts b).2,List.mem_reverse]
 exact takeWhile_no _
theorem whol_rest {w g d:List UInt8} (e:w++g=d) (hd:Whol d) (hg:(10:UInt8)∉g):g=[]:=by
 cases hgn:g with
 | nil=>rfl
 | cons c r=>
  exfalso
  have hne:g≠[]:=by rw[hgn];simp
  have hd0:d≠[]:=by rw[<- e];simp[hgn]
  have h1:=hd.last hd0
  have h2:d.getLast hd0=g.getLast hne:=by
   have:(w++g).getLast (by simp[hgn])=g.getLast hne:=List.getLast_append_of_ne_nil _ hne
   rw[<- this];congr 1;exact e.symm
  rw[h2] at h1
  exact hg (h1 ▸ List.getLast_mem hne)
theorem count_ended:∀(l:List (List UInt8)),(∀s∈l,(10:UInt8)∉s)->(ended l).count 10=l.length
 | [],_=>by simp[ended]
 | s::l,h=>by
  have hs:=h s (by simp)
  rw[ended_cons,List.count_append,List.count_append,List.count_eq_zero_of_not_mem hs,count_ended l (fun t ht=>h t (by simp[ht]))]
  simp
  omega
theorem head_same {c d:List UInt8} (h:c <+: d) (N:Nat) (hN:N<=c.count 10):(lines c).take N=(lines d).take N:=by
 obtain⟨r,rfl⟩:=h
 have e:c=c.take (cutOf c)++c.drop (cutOf c):=(List.take_append_drop _ _).symm
 have hw:=cut_whol c
 have hr:=cut_rest c
 generalize c.take (cutOf c)=W at *
 generalize c.drop (cutOf c)=g at *
 subst e
 rw[lines_whol hw,List.append_assoc,lines_whol hw]
 have hc:(W++g).count 10=(lines W).length:=by
  rw[List.count_append,List.count_eq_zero_of_not_mem hr]
  conv=>lhs;rw[<- hw]
  rw[count_ended _ (lines_noFeed W)]
  omega
 rw[List.take_append_of_le_length (by omega),List.take_append_of_le_length (by omega)]
theorem made_whol {n:SNode} (h:nodeChk n=0) (fs:List SFile) (ins:List (List UInt8)):∀b∈nodeMade n fs ins,Whol b:=by
 obtain⟨h1,h2,_⟩:=node_kinds h
 unfold nodeMade
 intro b hb
 rcases used_kinds h1 with ⟨h3 | h3,_⟩ | ⟨h3,h4,h5⟩ | ⟨h3,h4⟩ | ⟨h3,h4⟩
 . rw[if_pos h3,List.mem_singleton] at hb
   rw[hb];exact whol_lines _
 . rw[if_neg (by omega),if_neg (by omega),if_neg (by omega),if_neg (by omega)] at hb
   simp at hb
 . rw[if_neg (by omega),if_pos h3,List.mem_map] at hb
   obtain⟨k,_,rfl⟩:=hb
   refine whol_ended _ (fun s hs=>?_)
   exact lines_noFeed _ s (List.mem_of_mem_take (List.mem_of_mem_drop hs))
 . rw[if_neg (by omega),if_neg (by omega),if_pos h3,List.mem_singleton] at hb
   rw[hb];exact whol_ended _ (made_noFeed _ h4 _ (lines_noFeed _))
 .
  rw[if_neg (by omega),if_neg (by omega),if_neg (by omega),if_pos h3,List.mem_singleton] at hb
  rw[hb]
  refine whol_ended _ (joined_noFeed _ _ (jchk_chk h4) _ (fun p hp=>?_))
  obtain⟨x,_,rfl⟩:=List.mem_map.1 hp
  exact lines_noFeed x
structure PipeOk (d e c:List UInt8) (x:SPipe) (o:List UInt8) (ovw rdr:Bool):Prop where
 good:pchk x=0
 closed:x.closed=ovw
 shut:x.shut=true->rdr=true
 flow:x.shut=false->e=c++x.b++o
 all:x.shut=false->rdr=true->c=d
structure WaitOk (n:SNode) (ins:List (List UInt8)) (c:Nat->List UInt8) (e:Nat->List UInt8) (p:SProc) (m:Nat):Prop where
 pos:p.pos=m
 lt:ins.length≠0->m<ins.length
 past:∀(j:Nat) (d:List UInt8),j<m->ins[j]? = some d->c j=d
 next:∀j,m<j->j<ins.length->c j=[]
 sink:n.kind=5->p.got[0]?.getD []=[]
 pass:n.kind≠5->passes n=true->(∀j,j≠m->p.got[j]?.getD []=[]) /\ ∃W,(10:UInt8)∉p.got[m]?.getD []/\c m=W++p.got[m]?.getD []/\Whol W/\e 0=through n ((ins.take m).flatten++W)
 hold:n.kind≠5->passes n=false->(∀j,j<ins.length->p.got[j]?.getD []=c j)/\(∀k,e k=[])/\(n.kind=3->n.c.kind=9->((c 0).count 10:Int)<n.c.n)
structure ProcOk (n:SNode) (ds ins:List (List UInt8)) (c e:Nat->List UInt8) (p:SProc) (sunk:List UInt8):Prop where
 glen:p.got.length=ins.length
 olen:p.out.length=ds.length
 rng:0<=p.pos/\p.pos<=ins.length
 ovrd:p.ov=true->p.rd=true
 ovout:p.ov=true -> ∀b∈p.out,b=[]
 pre:∀(k:Nat) (d:List UInt8),ds[k]? = some d->e k <+: d
 cpre:∀(j:Nat) (d:List UInt8),ins[j]? = some d->c j <+: d
 rde:p.rd=true -> ∀(k:Nat) (d:List UInt8),ds[k]? = some d->e k=d
 small:∀j,j<ins.length->(p.got[j]?.getD []).length<=(c j).length
 osmall:∀(k:Nat) (d:List UInt8),ds[k]? = some d->(p.out[k]?.getD []).length<=d.length
 snk:n.kind=5->sunk=c 0
 snk2:n.kind=5->p.rd=true -> ∀d,ins[0]? = some d->c 0=d
 wait:p.rd=false -> ∃m,WaitOk n ins c e p m
structure MInv (ns:List SNode) (fs:List SFile) (room:Int) (M:SMach) (C:Nat->List UInt8) (E:Nat->Nat->List UInt8):Prop where
 ens:M.ns=ns
 efs:M.fs=fs
 plen:M.ps.length=ns.length
 xlen:M.pipes.length=(allIns ns).length
 proc:∀(i:Nat) (n:SNode) (p:SProc),ns[i]? = some n->M.ps[i]? = some p->ProcOk n (nodeMade n fs (n.ins.map (portAt (outsL fs [] ns)))) (n.ins.map (portAt (outsL fs [] ns))) (fun j=>C (firstIn ns i+j)) (E i) p M.sunk
 pipe:∀(r:Nat) (n:SNode) (j i k:Nat) (pr pw:SProc) (x:SPipe),ns[r]? = some n->n.ins[j]? = some ((i:Int),(k:Int))->M.ps[r]? = some pr->M.ps[i]? = some pw->M.pipes[firstIn ns r+j]? = some x ->
  x.room=roomOf ns room ((i:Int),(k:Int))/\PipeOk (portAt (outsL fs [] ns) ((i:Int),(k:Int))) (E i k) (C (firstIn ns r+j)) x (pw.out[k]?.getD []) pw.ov pr.rd
theorem set_at {α:Type} {l:List α} {i j:Nat} {a b:α} (h:(l.set i a)[j]? = some b):(j=i/\b=a)\/(j≠i/\l[j]? = some b):=by
 rw[List.getElem?_set] at h
 by_cases e:i=j
 .
  subst e
  rw[if_pos rfl] at h
  split at h
  . left;injection h with h;exact⟨rfl,h.symm⟩
  . cases h
 . rw[if_neg e] at h
   exact Or.inr ⟨fun q=>e q.symm,h⟩
theorem nouts_ds {n:SNode} (h:nodeChk n=0) (fs:List SFile) (ins:List (List UInt8)) {k:Nat} (hk:(k:Int)<nouts n):k<(nodeMade n fs ins).length:=by
 have:=nodeMade_count h fs ins
 omega
theorem port_ds {ns:List SNode} (g:RightG ns) (fs:List SFile) {i k:Nat} {m:SNode} (hm:ns[i]? = some m) (hk:(k:Int)<nouts m) :
 (nodeMade m fs (m.ins.map (portAt (outsL fs [] ns))))[k]? = some (portAt (outsL fs [] ns) ((i:Int),(k:Int))):=by
 rw[portAt_nat,g.outs fs hm]
 have:=nouts_ds (g.node m (mGt hm)) fs (m.ins.map (portAt (outsL fs [] ns))) hk
 simp only[Option.getD_some]
 rw[gEl this]
 rfl
theorem passes_ins {n:SNode} (h:nodeChk n=0) (hp:passes n=true):n.ins.length≠0:=by
 obtain⟨h1,h2,_⟩:=node_kinds h
 unfold passes at hp
 simp only[Bool.or_eq_true,Bool.and_eq_true,decide_eq_true_eq] at hp
 unfold mayHave at h2
 rcases hp with ⟨h3,_⟩ | ⟨h3,_⟩
 . rw[if_neg (by omega),if_pos h3] at h2
   have:=of_decide_eq_true h2
   omega
 . rw[if_neg (by omega),if_neg (by omega)] at h2
   have:=of_decide_eq_true h2
   omega
theorem inv_own {ns:List SNode} {fs:List SFile} {room:Int} {M:SMach} {C:Nat->List UInt8} {E:Nat->Nat->List UInt8} (g:RightG ns) (h:MInv ns fs room M C E) {a:Nat} {n:SNode} {p:SProc} (hn:ns[a]? = some n) (hp:M.ps[a]? = some p)
 (p':SProc) (X:List SPipe) (s':List UInt8) (C':Nat->List UInt8) (e':Nat->List UInt8) (hX:X.length=M.pipes.length) (hov:p'.ov=p.ov)
 (hpr:ProcOk n (nodeMade n fs (n.ins.map (portAt (outsL fs [] ns)))) (n.ins.map (portAt (outsL fs [] ns))) (fun j=>C' (firstIn ns a+j)) e' p' s')
 (hs:n.kind≠5->s'=M.sunk)
 (hoth:∀q,(∀m,m<n.ins.length->q≠firstIn ns a+m)->X[q]? = M.pipes[q]? /\ C' q=C q)
 (hown:∀(m i k:Nat) (pw:SProc) (x y:SPipe),n.ins[m]? = some ((i:Int),(k:Int))->M.ps[i]? = some pw->M.pipes[firstIn ns a+m]? = some y->X[firstIn ns a+m]? = some x ->
  x.room=y.room/\PipeOk (portAt (outsL fs [] ns) ((i:Int),(k:Int))) (E i k) (C' (firstIn ns a+m)) x (pw.out[k]?.getD []) pw.ov p'.rd)
 (hout:∀k:Nat,(k:Int)<nouts n -> ∃z,e' k=E a k++z/\(p'.out[k]?.getD [])=(p.out[k]?.getD [])++z) :
 MInv ns fs room ⟨M.ns,M.fs,X,M.ps.set a p',s'⟩ C' (fun i=>if i=a then e' else E i):=by
 have hal:a<M.ps.length:=(gSm hp).1
 have hCother:∀i n',ns[i]? = some n'->i≠a -> ∀j,j<n'.ins.length->C' (firstIn ns i+j)=C (firstIn ns i+j):=by
  intro i n' hn' hi j hj
  refine (hoth _ (fun m hm e=>hi ?_)).2
  exact (firstIn_inj hn' hn hj hm e).1
 refine⟨h.ens,h.efs,by simpa using h.plen,hX.trans h.xlen,?_,?_⟩
 .
  intro i n' q hn' hq
  rcases set_at hq with ⟨rfl,rfl⟩ | ⟨hi,hq⟩
  . rw[hn] at hn'
    injection hn' with hn'
    subst hn'
    simp only[if_true]
    exact hpr
  .
   have ho:=h.proc i n' q hn' hq
   simp only[if_neg hi]
   have hins:(n'.ins.map (portAt (outsL fs [] ns))).length=n'.ins.length:=List.length_map _
   have hlt:∀j,n'.ins.length<=j->(q.got[j]?.getD [])=[]:=fun j hj=>by rw[List.getElem?_eq_none (by rw[ho.glen,hins];exact hj)];rfl
   have hCm:∀j,j<(n'.ins.map (portAt (outsL fs [] ns))).length->C' (firstIn ns i+j)=C (firstIn ns i+j):=fun j hj=>hCother i n' hn' hi j (by rw[<- hins];exact hj)
   have hCd:∀(j:Nat) (d:List UInt8),(n'.ins.map (portAt (outsL fs [] ns)))[j]? = some d->C' (firstIn ns i+j)=C (firstIn ns i+j):=fun j d hd=>hCm j (gSm hd).1
   refine⟨ho.glen,ho.olen,ho.rng,ho.ovrd,ho.ovout,ho.pre,?_,ho.rde,?_,ho.osmall,?_,fun h5 hr5 d hd=>by rw[hCd 0 d hd];exact ho.snk2 h5 hr5 d hd,?_⟩
   . intro j d hd
     rw[hCd j d hd]
     exact ho.cpre j d hd
   . intro j hj
     rw[hCm j hj];exact ho.small j hj
   . intro h5
     have h1:n'.ins.length=1:=(right_ins (g.node n' (mGt hn'))).2 (Or.inr (Or.inr h5))
     have h6:n.kind≠5:=fun h6=>hi (by have:=(g.sink i n' hn').1 h5;have:=(g.sink a n hn).1 h6;omega)
     rw[hs h6,hCm 0 (by omega)]
     exact ho.snk h5
   .
    intro hrd
    obtain⟨m,hw⟩:=ho.wait hrd
    refine⟨m,hw.pos,hw.lt,?_,?_,hw.sink,?_,?_⟩
    . intro j d hj hd
      rw[hCd j d hd]
      exact hw.past j d hj hd
    . intro j hj hjl
      rw[hCm j hjl]
      exact hw.next j hj hjl
    . intro h5 hpass
      have h0:n'.ins.length≠0:=passes_ins (g.node n' (mGt hn')) hpass
      rw[hCm m (hw.lt (by omega))]
      exact hw.pass h5 hpass
    . intro h5 hpass
      obtain⟨q1,q2,q3⟩:=hw.hold h5 hpass
      refine⟨fun j hj=>by rw[hCm j hj];exact q1 j hj,q2,fun h3 h9=>?_⟩
      have h1:n'.ins.length=1:=(right_ins (g.node n' (mGt hn'))).2 (Or.inr (Or.inl h3))
      rw[hCm 0 (by omega)]
      exact q3 h3 h9
 .
  intro r n' j i k pr pw x hn' hj hr hi hx
  have hjl:j<n'.ins.length:=(gSm hj).1
  obtain⟨i2,k2,m,e,hir,hm,hk⟩:=g.src hn' hj
  simp only[Prod.mk.injEq,Int.natCast_inj] at e
  obtain⟨rfl,rfl⟩:=e
  have hne:i≠r:=by omega
  by_cases hra:r=a
  .
   subst hra
   rw[hn] at hn'
   injection hn' with hn'
   subst hn'
   rcases set_at hr with ⟨_,rfl⟩ | ⟨hc,_⟩
   .
    rcases set_at hi with ⟨hc,_⟩ | ⟨_,hi⟩
    . exact absurd hc hne
    . obtain⟨y,hy⟩:∃y,M.pipes[firstIn ns r+j]? = some y:=by
       refine⟨_,gEl ?_⟩
       rw[h.xlen];exact allIns_len hn hjl
      obtain⟨q1,q2⟩:=hown j i k pw x y hj hi hy hx
      obtain⟨q3,_⟩:=h.pipe r n j i k p pw y hn hj hp hi hy
      simp only[if_neg hne]
      exact⟨q1.trans q3,q2⟩
   . exact absurd rfl hc
  .
   rcases set_at hr with ⟨hc,_⟩ | ⟨_,hr2⟩
   . exact absurd hc hra
   .
    obtain⟨o1,o2⟩:=hoth (firstIn ns r+j) (fun m' hm' e=>hra (firstIn_inj hn' hn hjl hm' e).1)
    rw[show (⟨M.ns,M.fs,X,M.ps.set a p',s'⟩:SMach).pipes=X from rfl,o1] at hx
    rw[o2]
    rcases set_at hi with ⟨rfl,rfl⟩ | ⟨hia,hi⟩
    .
     obtain⟨q1,q2⟩:=h.pipe r n' j i k pr p x hn' hj hr2 hp hx
     simp only[if_true]
     rw[hn] at hm
     injection hm with hm
     subst hm
     obtain⟨z,z1,z2⟩:=hout k hk
     refine⟨q1,q2.good,by rw[hov];exact q2.closed,q2.shut,fun hsh=>?_,q2.all⟩
     rw[z1,z2,q2.flow hsh]
     simp
    . simp only[if_neg hia]
      exact h.pipe r n' j i k pr pw x hn' hj hr2 hi hx
def noC:Cmd:=⟨0,[],0⟩
def sorterNs:List SNode:=[⟨1,[97],noC,0,0,[]⟩,⟨2,[],noC,0,2,[(0,0)]⟩,⟨3,[],⟨6,[],0⟩,0,0,[(1,0)]⟩,⟨3,[],⟨6,[],0⟩,0,0,[(1,1)]⟩,⟨4,[],noC,2,0,[(2,0),(3,0)]⟩,⟨5,[98],noC,0,0,[(4,0)]⟩]
def flowFs:List SFile:=[⟨[97],[51,10,49,10,50,10,48]⟩]
theorem sorter_right:gchk sorterNs=0:=by decide
theorem flow_files:fchk flowFs=0:=by decide
theorem flow_sort1:made ⟨6,[],0⟩ [[51],[49]]=[[49],[51]]:=by
 rw[made6 _ rfl,sorted_unique (sortOf [[51],[49]]) [[49],[51]] ((sortOf_perm _).trans (by decide)) (sortOf_sorted _) (by decide)]
theorem flow_sort2:made ⟨6,[],0⟩ [[50],[48]]=[[48],[50]]:=by
 rw[made6 _ rfl,sorted_unique (sortOf [[50],[48]]) [[48],[50]] ((sortOf_perm _).trans (by decide)) (sortOf_sorted _) (by decide)]
theorem flow_outs:outsL flowFs [] sorterNs=[[[51,10,49,10,50,10,48,10]],[[51,10,49,10],[50,10,48,10]],[[49,10,51,10]],[[48,10,50,10]],[[48,10,49,10,50,10,51,10]],[]]:=by
 have n0:nodeMade ⟨1,[97],noC,0,0,[]⟩ flowFs []=[[51,10,49,10,50,10,48,10]]:=by decide
 have n1:nodeMade ⟨2,[],noC,0,2,[(0,0)]⟩ flowFs [[51,10,49,10,50,10,48,10]]=[[51,10,49,10],[50,10,48,10]]:=by decide
 have n2:nodeMade ⟨3,[],⟨6,[],0⟩,0,0,[(1,0)]⟩ flowFs [[51,10,49,10]]=[[49,10,51,10]]:=by
  have l:lines [51,10,49,10]=[[51],[49]]:=by decide
  show [ended (made ⟨6,[],0⟩ (lines [51,10,49,10]))]=_
  rw[l,flow_sort1]
  rfl
 have n3:nodeMade ⟨3,[],⟨6,[],0⟩,0,0,[(1,1)]⟩ flowFs [[50,10,48,10]]=[[48,10,50,10]]:=by
  have l:lines [50,10,48,10]=[[50],[48]]:=by decide
  show [ended (made ⟨6,[],0⟩ (lines [50,10,48,10]))]=_
  rw[l,flow_sort2]
  rfl
 have n4:nodeMade ⟨4,[],noC,2,0,[(2,0),(3,0)]⟩ flowFs [[49,10,51,10],[48,10,50,10]]=[[48,10,49,10,50,10,51,10]]:=by decide
 have n5:nodeMade ⟨5,[98],noC,0,0,[(4,0)]⟩ flowFs [[48,10,49,10,50,10,51,10]]=[]:=by decide
 unfold sorterNs
 rw[outsL]
 rw[show nodeMade ⟨1,[97],noC,0,0,[]⟩ flowFs (List.map (portAt []) (SNode.ins ⟨1,[97],noC,0,0,[]⟩))=_ from n0,outsL]
 rw[show nodeMade ⟨2,[],noC,0,2,[(0,0)]⟩ flowFs (List.map (portAt ([]++[[[51,10,49,10,50,10,48,10]]])) (SNode.ins ⟨2,[],noC,0,2,[(0,0)]⟩))=_ from n1,outsL]
 rw[show nodeMade ⟨3,[],⟨6,[],0⟩,0,0,[(1,0)]⟩ flowFs (List.map (portAt ([]++[[[51,10,49,10,50,10,48,10]]]++[[[51,10,49,10],[50,10,48,10]]])) (SNode.ins ⟨3,[],⟨6,[],0⟩,0,0,[(1,0)]⟩))=_ from n2,outsL]
 rw[show nodeMade ⟨3,[],⟨6,[],0⟩,0,0,[(1,1)]⟩ flowFs (List.map (portAt ([]++[[[51,10,49,10,50,10,48,10]]]++[[[51,10,49,10],[50,10,48,10]]]++[[[49,10,51,10]]])) (SNode.ins ⟨3,[],⟨6,[],0⟩,0,0,[(1,1)]⟩))=_ from n3,outsL]
 rw[show nodeMade ⟨4,[],noC,2,0,[(2,0),(3,0)]⟩ flowFs (List.map (portAt ([]++[[[51,10,49,10,50,10,48,10]]]++[[[51,10,49,10],[50,10,48,10]]]++[[[49,10,51,10]]]++[[[48,10,50,10]]])) (SNode.ins ⟨4,[],noC,2,0,[(2,0),(3,0)]⟩))=_ from n4,outsL]
 rw[show nodeMade ⟨5,[98],noC,0,0,[(4,0)]⟩ flowFs (List.map (portAt ([]++[[[51,10,49,10,50,10,48,10]]]++[[[51,10,49,10],[50,10,48,10]]]++[[[49,10,51,10]]]++[[[48,10,50,10]]]++[[[48,10,49,10,50,10,51,10]]])) (SNode.ins ⟨5,[98],noC,0,0,[(4,0)]⟩))=_ from n5,outsL]
 rfl
theorem flow_made:evalS sorterNs flowFs=([48,10,49,10,50,10,51,10],0):=by
 rw[evalS_ok sorter_right flow_files,sunk_last (n:=⟨5,[98],noC,0,0,[(4,0)]⟩) rfl,flow_outs]
 rfl
end Go.Gs
