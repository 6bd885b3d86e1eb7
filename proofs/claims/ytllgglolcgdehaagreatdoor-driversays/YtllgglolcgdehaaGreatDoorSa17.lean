/- A machine in memory of its own, and more. -/
import Derived.Test.YtllgglolcgdehaaGreatDoorSAb
import Derived.Maps.OwnSet
import Derived.DeepKeys4
import Derived.MapViews
import Derived.ChangeSame
import Derived.Test.YtllgglolcgdehaaGreatDoorSa15
set_option linter.all false
set_option maxRecDepth 100000
set_option maxHeartbeats 16000000
namespace Go.Proofs.YtllgglolcgdehaaGreatDoor
open Go.RowKit Go.Gs Tryz
section
variable {w w':World} {D r:Nat} {O O':Nat->Option Own} {A:World->(Nat->Option Own)->Prop} {d:RD}
def SProc.gotSet(p:SProc)(j:Nat)(b:List UInt8):SProc:=⟨p.got.set j b,p.pos,p.out,p.rd,p.ov⟩
def PSlot.gotSet(s:PSlot)(j:Nat)(a:Sl):PSlot:=⟨s.gv,s.ov,s.gs.set j a,s.os⟩
def PSlot.outSet(s:PSlot)(j:Nat)(a:Sl):PSlot:=⟨s.gv,s.ov,s.gs,s.os.set j a⟩
theorem aD9(l:List (List UInt8))(ss:List Sl)(j:Nat)(b:List UInt8)(a:Sl):(P8 l ss).set j (sl b a)=P8 (l.set j b) (ss.set j a):=ae7 l ss j b a
theorem ag4{i:Nat}{p p':SProc}{s s':PSlot}(hp:d.M.ps[i]? = some p)(hs:d.P[i]? = some s)(An:H3 p' s'=H3 p s):v6 (d.M.ps.set i p') (d.P.set i s')=v6 d.M.ps d.P:=by
 unfold v6;rw[<- ae7,An];apply xX;intro j;by_cases e:i=j
 . subst e;have:(List.zipWith H3 d.M.ps d.P)[i]? = some (H3 p s):=Y5 hp hs;rw[x9 this,this]
 . rw[C4 e]
theorem RMem.setGot(h:RMem w D r O A d){i j g c:Nat}{p:SProc}{s:PSlot}{b0 b:List UInt8}{a:Sl}(hp:d.M.ps[i]? = some p)(hs:d.P[i]? = some s)(hb0:p.got[j]? = some b0)(hv:s.gv=.slice (some ⟨g,0,none⟩) p.got.length c)(hg:O g=some (.gots i))(ha:SOf w O (.got i j) a b):
 RMem (w.setCell ⟨g,j,none⟩ (sl b a)) D r O A (d.setProc i (SProc.gotSet p j b) (s.gotSet j a)):=by
 have hjl:j<p.got.length:=(gSm hb0).1;obtain⟨hl1,hl2⟩:=h.slen i p s hp hs;refine h.upd (o:=.gots i) ((Touch.refl O (.gots i) w).set hg) (fun _ _=>rfl) (ak8 h (by simp)) rfl rfl rfl rfl h.xlen (by simpa[RD.setProc,SMach.setP]using h.plen) (az8 h (by simpa[SProc.gotSet,PSlot.gotSet]using hl1) hl2) ?_ ?_
 .
  intro o' ho' hpt
  cases o' using Own.elimE with
  | procs=>
   refine⟨?_,hpt.2⟩
   have e1:v6 (d.setProc i (SProc.gotSet p j b) (s.gotSet j a)).M.ps (d.setProc i (SProc.gotSet p j b) (s.gotSet j a)).P=v6 d.M.ps d.P:=ag4 hp hs rfl
   have hlen:(d.setProc i (SProc.gotSet p j b) (s.gotSet j a)).M.ps.length=d.M.ps.length:=by simp[RD.setProc,SMach.setP]
   rw[e1,hlen]
   exact hpt.1
  | gots i'=>
   have hne:i≠i':=fun e=>ho' (by rw[e])
   intro q t hq ht
   exact hpt q t (by have:(d.M.ps.set i (SProc.gotSet p j b))[i']? = some q:=hq;rwa [C4 hne]at this) (by have:(d.P.set i (s.gotSet j a))[i']? = some t:=ht;rwa [C4 hne]at this)
  | outs i'=>
   intro q t hq ht
   by_cases e:i=i'
   . subst e
     have e1:SProc.gotSet p j b=q:=by have:(d.M.ps.set i (SProc.gotSet p j b))[i]? = some q:=hq;rw[x9 hp]at this;injection this
     have e2:s.gotSet j a=t:=by have:(d.P.set i (s.gotSet j a))[i]? = some t:=ht;rw[x9 hs]at this;injection this
     subst e1 e2
     exact hpt p s hp hs
   . exact hpt q t (by have:(d.M.ps.set i (SProc.gotSet p j b))[i']? = some q:=hq;rwa [C4 e]at this) (by have:(d.P.set i (s.gotSet j a))[i']? = some t:=ht;rwa [C4 e]at this)
  | got i' j'=>
   intro q t b' a' hq ht hb' ha'
   by_cases e:i=i'
   .
    subst e
    have e1:SProc.gotSet p j b=q:=by have:(d.M.ps.set i (SProc.gotSet p j b))[i]? = some q:=hq;rw[x9 hp]at this;injection this
    have e2:s.gotSet j a=t:=by have:(d.P.set i (s.gotSet j a))[i]? = some t:=ht;rw[x9 hs]at this;injection this
    subst e1 e2
    by_cases ej:j=j'
    .
     subst ej
     have e3:b=b':=by have:(p.got.set j b)[j]? = some b':=hb';rw[x9 hb0]at this;injection this
     have e4:a=a':=by
      have:(s.gs.set j a)[j]? = some a':=ha'
      rw[x9 (gEl (by rw[hl1];exact hjl))]at this
      injection this
     subst e3 e4
     exact ha
    . exact hpt p s b' a' hp hs (by have:(p.got.set j b)[j']? = some b':=hb';rwa [C4 ej]at this) (by have:(s.gs.set j a)[j']? = some a':=ha';rwa [C4 ej]at this)
   . exact hpt q t b' a' (by have:(d.M.ps.set i (SProc.gotSet p j b))[i']? = some q:=hq;rwa [C4 e]at this) (by have:(d.P.set i (s.gotSet j a))[i']? = some t:=ht;rwa [C4 e]at this) hb' ha'
  | out i' k=>
   intro q t b' a' hq ht hb' ha'
   by_cases e:i=i'
   . subst e
     have e1:SProc.gotSet p j b=q:=by have:(d.M.ps.set i (SProc.gotSet p j b))[i]? = some q:=hq;rw[x9 hp]at this;injection this
     have e2:s.gotSet j a=t:=by have:(d.P.set i (s.gotSet j a))[i]? = some t:=ht;rw[x9 hs]at this;injection this
     subst e1 e2
     exact hpt p s b' a' hp hs hb' ha'
   . exact hpt q t b' a' (by have:(d.M.ps.set i (SProc.gotSet p j b))[i']? = some q:=hq;rwa [C4 e]at this) (by have:(d.P.set i (s.gotSet j a))[i']? = some t:=ht;rwa [C4 e]at this) hb' ha'
  | box=>exact hpt
  | pipes=>exact hpt
  | pipe q=>exact hpt
  | sunk=>exact hpt
  | aux=>exact hpt
 .
  intro q t hq ht;have e1:SProc.gotSet p j b=q:=by have:(d.M.ps.set i (SProc.gotSet p j b))[i]? = some q:=hq;rw[x9 hp]at this;injection this
  have e2:s.gotSet j a=t:=by have:(d.P.set i (s.gotSet j a))[i]? = some t:=ht;rw[x9 hs]at this;injection this
  subst e1 e2;obtain⟨h1,h2⟩:=h.part (.gots i) p s hp hs;refine⟨?_,h2⟩;rw[hv]at h1;have k0:=J3 h1 j (by omega) (sl b a);rw[aD9]at k0;show World.ownsRow _ D 28 1 s.gv (p.got.set j b).length (P8 (p.got.set j b) (s.gs.set j a));rw[zR,hv];exact k0
theorem RMem.setOut(h:RMem w D r O A d){i j g c:Nat}{p:SProc}{s:PSlot}{b0 b:List UInt8}{a:Sl}(hp:d.M.ps[i]? = some p)(hs:d.P[i]? = some s)(hb0:p.out[j]? = some b0)(hv:s.ov=.slice (some ⟨g,0,none⟩) p.out.length c)(hg:O g=some (.outs i))(ha:SOf w O (.out i j) a b):
 RMem (w.setCell ⟨g,j,none⟩ (sl b a)) D r O A (d.setProc i (p.setOut j b) (s.outSet j a)):=by
 have hjl:j<p.out.length:=(gSm hb0).1;obtain⟨hl1,hl2⟩:=h.slen i p s hp hs;refine h.upd (o:=.outs i) ((Touch.refl O (.outs i) w).set hg) (fun _ _=>rfl) (ak8 h (by simp)) rfl rfl rfl rfl h.xlen (by simpa[RD.setProc,SMach.setP]using h.plen) (az8 h hl1 (by simpa[SProc.setOut,PSlot.outSet]using hl2)) ?_ ?_
 .
  intro o' ho' hpt
  cases o' using Own.elimE with
  | procs=>
   refine⟨?_,hpt.2⟩
   have e1:v6 (d.setProc i (p.setOut j b) (s.outSet j a)).M.ps (d.setProc i (p.setOut j b) (s.outSet j a)).P=v6 d.M.ps d.P:=ag4 hp hs rfl
   have hlen:(d.setProc i (p.setOut j b) (s.outSet j a)).M.ps.length=d.M.ps.length:=by simp[RD.setProc,SMach.setP]
   rw[e1,hlen]
   exact hpt.1
  | outs i'=>
   have hne:i≠i':=fun e=>ho' (by rw[e])
   intro q t hq ht
   exact hpt q t (by have:(d.M.ps.set i (p.setOut j b))[i']? = some q:=hq;rwa [C4 hne]at this) (by have:(d.P.set i (s.outSet j a))[i']? = some t:=ht;rwa [C4 hne]at this)
  | gots i'=>
   intro q t hq ht
   by_cases e:i=i'
   . subst e
     have e1:p.setOut j b=q:=by have:(d.M.ps.set i (p.setOut j b))[i]? = some q:=hq;rw[x9 hp]at this;injection this
     have e2:s.outSet j a=t:=by have:(d.P.set i (s.outSet j a))[i]? = some t:=ht;rw[x9 hs]at this;injection this
     subst e1 e2
     exact hpt p s hp hs
   . exact hpt q t (by have:(d.M.ps.set i (p.setOut j b))[i']? = some q:=hq;rwa [C4 e]at this) (by have:(d.P.set i (s.outSet j a))[i']? = some t:=ht;rwa [C4 e]at this)
  | out i' j'=>
   intro q t b' a' hq ht hb' ha'
   by_cases e:i=i'
   .
    subst e
    have e1:p.setOut j b=q:=by have:(d.M.ps.set i (p.setOut j b))[i]? = some q:=hq;rw[x9 hp]at this;injection this
    have e2:s.outSet j a=t:=by have:(d.P.set i (s.outSet j a))[i]? = some t:=ht;rw[x9 hs]at this;injection this
    subst e1 e2
    by_cases ej:j=j'
    .
     subst ej
     have e3:b=b':=by have:(p.out.set j b)[j]? = some b':=hb';rw[x9 hb0]at this;injection this
     have e4:a=a':=by
      have:(s.os.set j a)[j]? = some a':=ha'
      rw[x9 (gEl (by rw[hl2];exact hjl))]at this
      injection this
     subst e3 e4
     exact ha
    . exact hpt p s b' a' hp hs (by have:(p.out.set j b)[j']? = some b':=hb';rwa [C4 ej]at this) (by have:(s.os.set j a)[j']? = some a':=ha';rwa [C4 ej]at this)
   . exact hpt q t b' a' (by have:(d.M.ps.set i (p.setOut j b))[i']? = some q:=hq;rwa [C4 e]at this) (by have:(d.P.set i (s.outSet j a))[i']? = some t:=ht;rwa [C4 e]at this) hb' ha'
  | got i' k=>
   intro q t b' a' hq ht hb' ha'
   by_cases e:i=i'
   . subst e
     have e1:p.setOut j b=q:=by have:(d.M.ps.set i (p.setOut j b))[i]? = some q:=hq;rw[x9 hp]at this;injection this
     have e2:s.outSet j a=t:=by have:(d.P.set i (s.outSet j a))[i]? = some t:=ht;rw[x9 hs]at this;injection this
     subst e1 e2
     exact hpt p s b' a' hp hs hb' ha'
   . exact hpt q t b' a' (by have:(d.M.ps.set i (p.setOut j b))[i']? = some q:=hq;rwa [C4 e]at this) (by have:(d.P.set i (s.outSet j a))[i']? = some t:=ht;rwa [C4 e]at this) hb' ha'
  | box=>exact hpt
  | pipes=>exact hpt
  | pipe q=>exact hpt
  | sunk=>exact hpt
  | aux=>exact hpt
 .
  intro q t hq ht;have e1:p.setOut j b=q:=by have:(d.M.ps.set i (p.setOut j b))[i]? = some q:=hq;rw[x9 hp]at this;injection this
  have e2:s.outSet j a=t:=by have:(d.P.set i (s.outSet j a))[i]? = some t:=ht;rw[x9 hs]at this;injection this
  subst e1 e2;obtain⟨h1,h2⟩:=h.part (.outs i) p s hp hs;refine⟨?_,h2⟩;rw[hv]at h1;have k0:=J3 h1 j (by omega) (sl b a);rw[aD9]at k0;show World.ownsRow _ D 28 1 s.ov (p.out.set j b).length (P8 (p.out.set j b) (s.os.set j a));rw[zR,hv];exact k0
theorem RMem.setSunk(h:RMem w D r O A d){b:List UInt8}{a:Sl}(ha:SOf w O .sunk a b):RMem (w.setCell ⟨r,4,none⟩ (sl b a)) D r O A (d.setSunk b a):=by
 have hbx:=h.box;refine h.upd (o:=.box) ((Touch.refl O .box w).set hbx.2) (fun _ _=>rfl) (ak8 h (by simp)) rfl rfl rfl rfl h.xlen h.plen h.slen ?_ ?_
 .
  intro o' ho' hpt
  cases o' using Own.elimE with
  | box=>exact absurd rfl ho'
  | sunk=>exact ha
  | pipes=>exact hpt
  | procs=>exact hpt
  | gots i=>exact hpt
  | outs i=>exact hpt
  | pipe q=>exact hpt
  | got i j=>exact hpt
  | out i j=>exact hpt
  | aux=>exact hpt
 . refine⟨?_,hbx.2⟩;rw[zL w r 4 _ _ (0,0) _ hbx.1];rw[zV w r _ _ _ _ hbx.1];rfl
structure Ext (O O':Nat->Option Own) (o:Own) (w w':World):Prop where
 old:∀k,k<w.heap.size->O' k=O k
 new:∀g o',O' g=some o'->w.heap.size<=g->g<w'.heap.size
theorem src_of{tx:TypeId}(hk:prog.underlying tx=some (.slice 5)){ax:Option Addr}{cx:Nat}{c:List UInt8}(hr:Reads w (.slice ax c.length cx) c.length (c.map U)):Src prog 1 tx (.slice ax c.length cx) c.length (c.map U) w:=by
 obtain⟨h1,ao,cap,e,h2,h3,h4⟩:=hr;injection e with e1 e2 e3;subst e1 e3
 cases hc:c with
 | nil=>
  cases ax with
  | none=>exact Src.ofNil w hk cx
  | some a=>exact Src.ofSlice w hk a 0 cx [] rfl (fun j u h=>by simp at h) (fun u h=>by cases h)
 | cons x l=>
  obtain⟨b,off,rfl,Ac⟩:=h4 (by rw[hc];simp)
  rw[<- hc]
  refine Src.ofSlice w hk ⟨b,off,none⟩ c.length cx (c.map U) (by simp) (fun j u hj=>?_) aP2
  rw[addP]
  exact Ac j u hj
theorem bq4{s:Sl}{b:List UInt8}{o:Own}(h:SOf w O o s b):(Builtin.firstCells 1 b.length (sl b s)).run prog w.drew=.ok (b.map U).toArray w.drew:=by
 have hr:=h.reads;obtain⟨h1,ao,cap,e,h2,h3,h4⟩:=hr;unfold sl at e ⊢;injection e with e1 e2 e3
 cases hb:b with
 | nil=>
  cases hs:s.1 with
  | none=>exact run_firstCells_none w.drew 1 0 0 s.2
  | some a=>exact run_firstCells_some w.drew 1 0 a 0 s.2 [] rfl (fun j v h=>by simp at h)
 | cons x l=>
  obtain⟨g,off,e4,hc⟩:=h4 (by rw[hb];simp)
  rw[<- hb]
  rw[e1,e4]
  refine run_firstCells_some w.drew 1 b.length ⟨g,off,none⟩ b.length s.2 (b.map U) (by simp) (fun j u hj=>?_)
  rw[addP]
  have:=hc j u hj
  simpa using this
theorem ak9{g:Nat}{t:TypeId}:∀(vs:List Value)(o:Nat)(w:World)(cur:Array Value),w.heap[g]? = some (.cells cur t (0,0))->o+vs.length<=cur.size ->
 ∃cur',(w.setCells g o vs).heap[g]? = some (.cells cur' t (0,0))/\cur'.size=cur.size/\∀j,cur'[j]? = if o<=j/\j<o+vs.length then vs[j-o]? else cur[j]?
 | [],o,w,cur,h,_=>⟨cur,h,rfl,fun j=>by rw[qA (by simp)]⟩
 | v::vs,o,w,cur,h,hl=>by
  simp only[qY]at hl
  have h1:(w.setCell ⟨g,o,none⟩ v).heap[g]? = some (.cells (cur.setIfInBounds o v) t (0,0)):=by
   rw[zL w g o cur t (0,0) v h]
   exact zV w g cur _ t _ h
  obtain⟨cur',h2,h3,h4⟩:=ak9 vs (o+1) (w.setCell ⟨g,o,none⟩ v) _ h1 (by simp;omega)
  refine⟨cur',h2,by simpa using h3,fun j=>?_⟩
  rw[h4 j]
  by_cases hj:o<=j/\j<o+(v::vs).length
  .
   rw[qF hj]
   simp only[qY]at hj
   by_cases e:j=o
   . subst e
     rw[qA (by omega),Array.getElem?_setIfInBounds,qF rfl,qF (by omega)]
     simp
   . rw[qF (by omega),show j-o=(j-(o+1))+1 by omega,xu]
  . rw[qA hj]
    simp only[qY]at hj
    rw[qA (by omega),Array.getElem?_setIfInBounds,qA (by omega)]
theorem ad1(g:Nat):∀(vs:List Value)(o:Nat)(w:World),(w.setCells g o vs).tape=w.tape
 | [],_,_=>rfl
 | v::vs,o,w=>(ad1 g vs (o+1) (w.setCell ⟨g,o,none⟩ v)).trans rfl
theorem al0{xs:List Value}{off n:Nat}{ys:List Value}(hn:ys.length=n)(h:∀j,j<n->xs[off+j]? = ys[j]?):(xs.drop off).take n=ys:=by
 apply xX;intro j;rw[xR];by_cases hj:j<n
 . rw[qF hj,xd];exact h j hj
 . rw[qA hj,qm (by omega)]
theorem bg9{xs:List Value}{off n:Nat}{ys:List Value}(h:(xs.drop off).take n=ys){j:Nat}(hj:j<n):xs[off+j]? = ys[j]?:=by rw[<- h,xR,qF hj,xd]
theorem aP4{s:Sl}{b c:List UInt8}{o:Own}(h:SOf w O o s b)(hlo:∀g o,O g=some o->g<w.heap.size)(ty:TypeId)(ht:prog.underlying 28 = some (.slice 5)){ax:Option Addr}{cx:Nat}(hr:Reads w (.slice ax c.length cx) c.length (c.map U))(hl:b.length+c.length<=140737488355328):
 ∃s' w' O',(Builtin.append_ #[28,28] ty #[sl b s,.slice ax c.length cx]).run prog w=.ok (sl (b++c) s') w'/\Ext O O' o w w'/\Touch O o w w'/\SOf w' O' o s' (b++c)/\SOf w' O' o s b:=by
 obtain⟨i0,hi,hi0,hi1,hi2⟩:=info_parts bg7;have La:=src_of (tx:=28) ht hr;have hle:b.length<=s.2:=by obtain⟨_,ao,cap,e,h2,_,_⟩:=h.reads;unfold sl at e;injection e with e1 e2 e3;omega
 by_cases h0:c=[]
 .
  subst h0;refine⟨s,w,O,?_,⟨fun _ _=>rfl,fun g o' hg hge=>?_⟩,Touch.refl _ _ _,by rw[xH];exact h,h⟩
  . have:=run_append_nothing (P:=prog) w 28 28 ty 5 i0 ht hi s.1 b.length s.2 hle (.slice ax 0 cx) (by rw[hi1];exact La);rw[xH];exact this
  . exact absurd (hlo g o' hg) (by omega)
 .
  have hc0:0<c.length:=zK.2 h0;by_cases Bh:b.length+c.length<=s.2
  .
   rcases id h with⟨rfl,rfl⟩|⟨g,off,cur,hs,ho,hg,h1,h2,h3,h4⟩
   . have:nilS.2=0:=rfl;omega
   .
    have hgl:g<w.heap.size:=(aSm hg).1;obtain⟨cur',hg',Im,It⟩:=ak9 (c.map U) (off+b.length*1) w cur hg (by rw[qM];omega)
    have Aj:=run_append_room_src (P:=prog) w 28 28 ty 5 i0 ht hi g off b.length s.2 (.slice ax c.length cx) c.length (c.map U) (by rw[hi1];exact La) Bh (fun j hj=>by
     rw[hi1,qV _ _ _ _ _ _ hg,qM]at *
     rw[zX (by omega)]
     rfl) (fun j hj=>xK _ _ _ _ _ hg)
    rw[hi1]at Aj;have hT:Touch O o w (w.setCells g (off+b.length*1) (c.map U)):=by have hk:=World.keptBut_setCells g (may:=fun p=>p.block=g) (c.map U) (off+b.length*1) w (fun _ _=>rfl);refine⟨World.os_setCells _ _ _ _,ad1 _ _ _ _,World.output_setCells _ _ _ _,hk.size,fun k hk2 hn=>World.heap_setCells_other w g _ _ hk2 (fun e=>hn (by rw[e];exact ho))⟩
    have hold:∀j,j<b.length->cur'.toList[off+j]? = (b.map U)[j]?:=by intro j hj;rw[xk,It,qA (by omega),<- xk];exact bg9 h4 hj
    refine⟨s,_,O,?_,⟨fun _ _=>rfl,fun g' o' hg' hge=>absurd (hlo g' o' hg') (by omega)⟩,hT,.inr ⟨g,off,cur',hs,ho,hg',?_,h2,by omega,?_⟩,.inr ⟨g,off,cur',hs,ho,hg',h1,h2,by omega,?_⟩⟩
    . unfold sl;rw[hs,qG];exact Aj
    . rw[qG];exact Bh
    . refine al0 (by simp) (fun j hj=>?_);rw[qG]at hj;rw[qz];by_cases hjb:j<b.length
      . rw[xe (by rw[qM];exact hjb)];exact hold j hjb
      . rw[qj (by rw[qM];omega),xk,It,qF (by rw[qM];omega),qM];rw[show off+j-(off+b.length*1)=j-b.length by omega]
    . exact al0 (by simp) hold
  .
   have Aj:=run_append_grow_src (P:=prog) w 28 28 ty 5 i0 (.int .u8 0) ht hi hi0 s.1 b.length s.2 (b.map U) (by rw[hi1];exact bq4 h) (.slice ax c.length cx) c.length (c.map U) (by rw[hi1];exact La) (by omega) (by omega) (growslice_fits (by omega) (by rw[hi2];omega));have hge:=grownCap_ge w (b.length+c.length) s.2 5;have hcm:grownCap w (b.length+c.length) s.2 5 <= maxLen:=zv w (b.length+c.length) s.2 5 (by unfold maxLen;omega);generalize grownCap w (b.length+c.length) s.2 5 = GC at *;obtain⟨cur,Uc⟩:=qE (((b.map U++c.map U).toArray++Builtin.zeroCells (Value.int .u8 0).cells (GC-(b.length+c.length))));rw[<- Uc]at Aj;have Bl:(w.drew.alloc (.cells cur 5)).heap[w.heap.size]? = some (.cells cur 5 (0,0)):=qN w.drew _;have Aa:Bq w (w.drew.alloc (.cells cur 5)):=((qI _ w).drew).alloc (qB _) _
   have hEq:∀k,k<w.heap.size->(if k=w.heap.size then some o else O k)=O k:=fun k hk=>by rw[qA (by omega)]
   refine⟨(some ⟨w.heap.size,0,none⟩,GC),_,fun k=>if k=w.heap.size then some o else O k,?_,⟨hEq,fun g' o' hg' hge2=>?_⟩,Touch.of_below Aa,.inr ⟨w.heap.size,0,cur,rfl,by simp,Bl,by rw[qG];exact hge,hcm,?_,?_⟩,h.keep (fun k hk=>Aa.block k (hlo k o hk)) hEq⟩
   . unfold sl;rw[qG];exact Aj
   . by_cases e:g'=w.heap.size
     . subst e;exact (aSm Bl).1
     . rw[qA e]at hg';exact absurd (hlo g' o' hg') (by omega)
   . rw[Uc,Array.size_append,size_zeroCells];simp[Value.cells];omega
   . rw[Uc,List.drop_zero,Array.toList_append];simp only;rw[<- qz,xF (by simp)];rw[qO (by simp)]
theorem RMem.append(h:RMem w D r O A d){o:Own}{s:Sl}{b c:List UInt8}(hS:SOf w O o s b)(Xo:∀w1 O1,SOf w1 O1 o s b->Part w1 D r O1 A d o){ax:Option Addr}{cx:Nat}(hr:Reads w (.slice ax c.length cx) c.length (c.map U))(hl:b.length+c.length<=140737488355328)(ty:TypeId):
 ∃s' w' O',(Builtin.append_ #[28,28] ty #[sl b s,.slice ax c.length cx]).run prog w=.ok (sl (b++c) s') w'/\RMem w' D r O' A d/\SOf w' O' o s' (b++c)/\Touch O o w w'/\(∀k,k<w.heap.size->O' k=O k):=by
 obtain⟨s',w',O',Aj,he,ht,h1,h2⟩:=aP4 hS (fun g o hg=>(h.lo g o hg).2) ty underlying28 hr hl;refine⟨s',w',O',Aj,h.upd ht he.old (fun g o' hg=>?_) rfl rfl rfl rfl h.xlen h.plen h.slen (fun _ _ hp=>hp) (Xo w' O' h2),h1,ht,he.old⟩;by_cases hgl:g<w.heap.size
 . have:=h.lo g o' (by rw[<- he.old g hgl];exact hg);have:=ht.size;omega
 . have:=he.new g o' hg (by omega);have:=h.le;omega
theorem RMem.appendGot(h:RMem w D r O A d){i j:Nat}{p:SProc}{s:PSlot}{b c:List UInt8}{a:Sl}(hp:d.M.ps[i]? = some p)(hs:d.P[i]? = some s)(hb:p.got[j]? = some b)(ha:s.gs[j]? = some a){ax:Option Addr}{cx:Nat}(hr:Reads w (.slice ax c.length cx) c.length (c.map U))(hl:b.length+c.length<=140737488355328)(ty:TypeId):
 ∃s' w' O',(Builtin.append_ #[28,28] ty #[sl b a,.slice ax c.length cx]).run prog w=.ok (sl (b++c) s') w'/\RMem w' D r O' A d/\SOf w' O' (.got i j) s' (b++c)/\Touch O (.got i j) w w'/\(∀k,k<w.heap.size->O' k=O k):=
 h.append (h.part (.got i j) p s b a hp hs hb ha) (fun w1 O1 h1 p' s' b' a' hp' hs' hb' ha'=>by
  rw[hp]at hp';injection hp' with e1;subst e1
  rw[hs]at hs';injection hs' with e2;subst e2
  rw[hb]at hb';injection hb' with e3;subst e3
  rw[ha]at ha';injection ha' with e4;subst e4
  exact h1) hr hl ty
theorem RMem.appendOut(h:RMem w D r O A d){i j:Nat}{p:SProc}{s:PSlot}{b c:List UInt8}{a:Sl}(hp:d.M.ps[i]? = some p)(hs:d.P[i]? = some s)(hb:p.out[j]? = some b)(ha:s.os[j]? = some a){ax:Option Addr}{cx:Nat}(hr:Reads w (.slice ax c.length cx) c.length (c.map U))(hl:b.length+c.length<=140737488355328)(ty:TypeId):
 ∃s' w' O',(Builtin.append_ #[28,28] ty #[sl b a,.slice ax c.length cx]).run prog w=.ok (sl (b++c) s') w'/\RMem w' D r O' A d/\SOf w' O' (.out i j) s' (b++c)/\Touch O (.out i j) w w'/\(∀k,k<w.heap.size->O' k=O k):=
 h.append (h.part (.out i j) p s b a hp hs hb ha) (fun w1 O1 h1 p' s' b' a' hp' hs' hb' ha'=>by
  rw[hp]at hp';injection hp' with e1;subst e1
  rw[hs]at hs';injection hs' with e2;subst e2
  rw[hb]at hb';injection hb' with e3;subst e3
  rw[ha]at ha';injection ha' with e4;subst e4
  exact h1) hr hl ty
theorem RMem.appendSunk(h:RMem w D r O A d){c:List UInt8}{ax:Option Addr}{cx:Nat}(hr:Reads w (.slice ax c.length cx) c.length (c.map U))(hl:d.M.sunk.length+c.length<=140737488355328)(ty:TypeId):
 ∃s' w' O',(Builtin.append_ #[28,28] ty #[sl d.M.sunk d.sS,.slice ax c.length cx]).run prog w=.ok (sl (d.M.sunk++c) s') w'/\RMem w' D r O' A d/\SOf w' O' .sunk s' (d.M.sunk++c)/\Touch O .sunk w w'/\(∀k,k<w.heap.size->O' k=O k):=
 h.append (h.part .sunk) (fun w1 O1 h1=>h1) hr hl ty
end
end Go.Proofs.YtllgglolcgdehaaGreatDoor
namespace Go.Proofs.YtllgglolcgdehaaGreatDoor
open Go.RowKit Go.Gs Go.Maps Go.ChangeShapes Go.WideShapes Tryz
theorem aP5:(match prog.underlying 79 with | some (.array _ _) | some (.struct _)=>true | _=>false)=true:=by rw[underlying79]
theorem cl5:prog.keyTypeAt 2 79 = true:=by kernel_rfl
theorem aZ4:prog.tiled 2 79 = true:=by kernel_rfl
theorem cl6:Go.WideMaps.KeyLaw prog 79:=deep_law (m:=2) (by omega) cl5 aZ4 aP5
theorem V3:Keyed prog 79:=Keyed.of_law cl6
theorem cb9:prog.keyTypeAt (prog.types.size+1) 79 = true:=by kernel_rfl
theorem aZ5:prog.cellsOf 79 = 2:=by kernel_rfl
def aG9(p:Int × Int):Value:=.agg #[.int .i64 p.1,.int .i64 p.2]
theorem bD6(p:Int × Int):(aG9 p).formed prog 79 = true:=by simp[aG9,Value.formed,underlying79,aZ5]
def WfP(p:Int × Int):Prop:=(Lit.int .i64 p.1).wf=true/\(Lit.int .i64 p.2).wf=true
theorem intCells:prog.cellsOf 3 = 1:=by kernel_rfl
theorem bR0(w:World)(p:Int × Int)(h:WfP p):DataW.Trod (H:=Unit) (fun _=>()) prog w 0 (fun _=>true) false 79 (aG9 p) (.agg [.lit (.int .i64 p.1),.lit (.int .i64 p.2)]) []:=by
 refine⟨2,?_⟩
 have:=trod_struct2_mk (H:=Unit) (enc:=fun _=>()) (P:=prog) (w:=w) (base:=0) (spare:=fun _=>true) (held:=false) (n:=1) (cs:=[.int .i64 p.1,.int .i64 p.2]) (y0:=(.lit (.int .i64 p.1),[])) (y1:=(.lit (.int .i64 p.2),[])) underlying79 (by rw[aZ5];rfl)
  (by simp only[intCells];exact trod_int_mk 0 underlying3 h.1) (by simp only[intCells];exact trod_int_mk 0 underlying3 h.2)
 simpa[aG9,Value.cells]using this
def ao9(p:Int × Int):Lit:=(DataW.agg [.lit (.int .i64 p.1),.lit (.int .i64 p.2)]:DataW Unit).asKey
theorem ad2(w:World)(p:Int × Int)(h:WfP p):keyOf prog 79 (aG9 p)=some (ao9 p):=(keyOf_asKey cb9 aP5 (bD6 p) (bR0 w p h)).1
theorem aZ6(w:World){p q:Int × Int}(hp:WfP p)(hq:WfP q)(h:ao9 p=ao9 q):p=q:=by have h1:=ad2 w p hp;have h2:=ad2 w q hq;rw[<- h]at h2;have:=keyOf_inj_deep aZ4 aP5 h1 h2;simp only[aG9,Value.agg.injEq,Array.mk.injEq,List.cons.injEq,Value.int.injEq,true_and,and_true]at this;exact Prod.ext this.1 this.2
theorem bR1(w:World)(p:Int × Int)(h:WfP p):WideAt.IsKeyLit (ao9 p):=V3.key (ad2 w p h)
def J7(w:World)(R:Value->Option (DataW Unit × List MemPlace))(b n:Nat)(t:List (Int × Int)):Prop:=
 ∃D:DataW Unit,w.ownsMap prog 79 R b n D/\(∀p,WfP p->Go.Maps.has D (ao9 p)=decide (p∈t))/\Go.Maps.size D=t.length/\∀p∈t,WfP p
end Go.Proofs.YtllgglolcgdehaaGreatDoor
namespace Go.Gs
open Go.RowKit
theorem T0(a b:List SNode):j3 (a++b)=j3 a++j3 b:=by simp[j3]
theorem aP6(n:SNode):j3 [n]=n.ins:=by simp[j3]
theorem aH0:∀(rest ahead:List SNode)(t:List (Int × Int)),(y8 ahead rest t).1=0->y8 ahead rest t=(0,t++j3 rest)
 | [],ahead,t,h=>by simp[y8,j3]
 | n::r,ahead,t,h=>by
  obtain⟨e1,e2,e3,e4⟩:=O5 h
  obtain⟨f1,f2,f3⟩:=U5 _ _ _ e2
  rw[e4]at h ⊢
  rw[aH0 r _ _ h,f1]
  simp[j3]
theorem aA0(ns:List SNode):b7 ns 0=0:=by simp[b7,j3]
theorem al1{ns:List SNode}{i:Nat}{n:SNode}(h:ns[i]? = some n):b7 ns (i+1)=b7 ns i+n.ins.length:=by unfold b7;rw[Y0 h,T0,aP6,qG]
theorem aP7{ns:List SNode}{i j:Nat}(h:i<=j):b7 ns i<=b7 ns j:=by unfold b7;obtain⟨d,rfl⟩:∃d,j=i+d:=⟨j-i,by omega⟩;rw[List.take_add,T0,qG];omega
theorem aA1{ns:List SNode}{i j:Nat}{n:SNode}(h:ns[i]? = some n)(hij:i<j):b7 ns i+n.ins.length<=b7 ns j:=by rw[<- al1 h];exact aP7 hij
theorem K8{ns:List SNode}{i j a b:Nat}{n m:SNode}(hn:ns[i]? = some n)(hm:ns[j]? = some m)(ha:a<n.ins.length)(hb:b<m.ins.length)(e:b7 ns i+a=b7 ns j+b):i=j/\a=b:=by
 rcases Nat.lt_trichotomy i j with h | h | h
 . have:=aA1 hn h;omega
 . subst h;exact⟨rfl,by omega⟩
 . have:=aA1 hm h;omega
theorem ai5{ns:List SNode}{i j:Nat}{n:SNode}(h:ns[i]? = some n)(hj:j<n.ins.length):(j3 ns)[b7 ns i+j]? = n.ins[j]?:=by
 have e:j3 ns=j3 (ns.take i)++(n.ins++j3 (ns.drop (i+1))):=by
  conv=>lhs;rw[show ns=ns.take i++ns.drop i from (qk i ns).symm,Q6 h]
  rw[T0,show n::ns.drop (i+1)=[n]++ns.drop (i+1) from rfl,T0,aP6]
 unfold b7;rw[e,qj (by omega),show (j3 (ns.take i)).length+j-(j3 (ns.take i)).length=j by omega,xe hj]
theorem M1{ns:List SNode}{i j:Nat}{n:SNode}(h:ns[i]? = some n)(hj:j<n.ins.length):b7 ns i+j<(j3 ns).length:=by have:=ai5 h hj;rw[gEl hj]at this;exact (gSm this).1
theorem aw4:∀(ns:List SNode)(q:Nat),q<(j3 ns).length->∃i j n,ns[i]? = some n/\j<n.ins.length/\q=b7 ns i+j:=by
 intro ns q hq;have key:∀k,k<=ns.length->q<b7 ns k->∃i j n,ns[i]? = some n/\j<n.ins.length/\q=b7 ns i+j:=by
  intro k
  induction k with
  | zero=>intro _ h;rw[aA0]at h;omega
  | succ k ih=>
   intro hk h
   obtain⟨n,hn⟩:∃n,ns[k]? = some n:=⟨_,gEl (by omega)⟩
   rw[al1 hn]at h
   by_cases h2:q<b7 ns k
   . exact ih (by omega) h2
   . exact⟨k,q-b7 ns k,n,hn,by omega,by omega⟩
 exact key ns.length (qB _) (by unfold b7;rw[qZ];exact hq)
structure RightG (ns:List SNode):Prop where
 le60:ns.length<=60
 pos:0<ns.length
 node:∀n∈ns,j9 n=0
 nodup:(j3 ns).Nodup
 port:∀(i:Nat)(n:SNode),ns[i]? = some n->∀p∈n.ins,A7 (ns.take i) p=true
 every:∀(i k:Nat)(n:SNode),ns[i]? = some n->(k:Int)<nouts n->((i:Int),(k:Int))∈j3 ns
 sink:∀(i:Nat)(n:SNode),ns[i]? = some n->(n.kind=5 ↔ i+1=ns.length)
theorem ap0:∀(rest ahead:List SNode)(t:List (Int × Int)),(y8 ahead rest t).1=0->∀(k:Nat)(n:SNode),rest[k]? = some n->(∀p∈n.ins,A7 (ahead++rest.take k) p=true)/\(n.kind=5 ↔ k+1=rest.length)
 | [],ahead,t,h,k,n,hn=>by simp at hn
 | m::r,ahead,t,h,0,n,hn=>by
  simp at hn
  subst hn
  obtain⟨e1,e2,e3,e4⟩:=O5 h
  obtain⟨f1,f2,f3⟩:=U5 _ _ _ e2
  refine⟨fun p hp=>by simpa using (f2 p hp).1,?_⟩
  constructor
  . intro h5
    rw[qd h5]at e3
    rw[xC]at e3
    rw[e3];rfl
  .
   intro hl
   have:r=[]:=by
    cases r with
    | nil=>rfl
    | cons=>simp at hl
   rw[this]at e3
   exact qc e3.symm
 | m::r,ahead,t,h,k+1,n,hn=>by
  obtain⟨e1,e2,e3,e4⟩:=O5 h
  rw[e4]at h
  obtain⟨h1,h2⟩:=ap0 r _ _ h k n (by simpa using hn)
  refine⟨fun p hp=>by simpa using h1 p hp,?_⟩
  rw[h2]
  simp
theorem F8{ns:List SNode}(h:gchk ns=0):RightG ns:=by
 obtain⟨h1,h2,h3,h4⟩:=aq2 h;have ht:=aH0 ns [] [] h2;rw[xn]at ht;obtain⟨a1,a2,a3⟩:=aC1 ns [] [] h2 (by simp) (by simp);rw[ht]at a1 h4;refine⟨h1,h3,a3,a1,fun i n hn p hp=>?_,(bL1 ht).1 h4,fun i n hn=>?_⟩
 . have:=(ap0 ns [] [] h2 i n hn).1 p hp;simpa using this
 . exact (ap0 ns [] [] h2 i n hn).2
theorem RightG.src{ns:List SNode}(g:RightG ns){r:Nat}{n:SNode}(hn:ns[r]? = some n){j:Nat}{p:Int × Int}(hp:n.ins[j]? = some p):
 ∃(i k:Nat)(m:SNode),p=((i:Int),(k:Int))/\i<r/\ns[i]? = some m/\(k:Int)<nouts m:=by obtain⟨i,k,m,e,hm,hk⟩:=O4 (g.port r n hn p (mGt hp));have hi:i<(ns.take r).length:=(gSm hm).1;rw[qL]at hi;refine⟨i,k,m,e,by omega,?_,hk⟩;rwa [xj (by omega)]at hm
theorem RightG.into{ns:List SNode}(g:RightG ns){r j:Nat}{n:SNode}(hn:ns[r]? = some n){p:Int × Int}(hp:n.ins[j]? = some p):D2 ns p=b7 ns r+j:=by have hj:j<n.ins.length:=(gSm hp).1;have h1:=ai5 hn hj;rw[hp]at h1;obtain⟨hq,e⟩:=gSm h1;have:=g.nodup.idxOf_getElem _ hq;rw[e]at this;exact this
theorem RightG.reader{ns:List SNode}(g:RightG ns){i k:Nat}{m:SNode}(hm:ns[i]? = some m)(hk:(k:Int)<nouts m):
 ∃(r j:Nat)(n:SNode),ns[r]? = some n/\n.ins[j]? = some ((i:Int),(k:Int))/\i<r/\D2 ns ((i:Int),(k:Int))=b7 ns r+j/\b7 ns r+j<(j3 ns).length:=by obtain⟨q,hq⟩:=qb (g.every i k m hm hk);have hql:q<(j3 ns).length:=(gSm hq).1;obtain⟨r,j,n,hn,hj,rfl⟩:=aw4 ns q hql;rw[ai5 hn hj]at hq;obtain⟨i',k',m',e,hir,_,_⟩:=g.src hn hq;simp only[zT]at e;exact⟨r,j,n,hn,hq,by omega,g.into hn hq,hql⟩
theorem RightG.outs{ns:List SNode}(g:RightG ns)(fs:List SFile){i:Nat}{n:SNode}(hn:ns[i]? = some n):(j4 fs [] ns)[i]? = some (j0 n fs (n.ins.map (f9 (j4 fs [] ns)))):=by have hi:i<ns.length:=(gSm hn).1;have h1:=bl6 fs ns hn (k:=ns.length) hi (qB _);rw[qZ]at h1;rw[h1];congr 2;apply zJ;intro p hp;exact (bL0 (by omega) (g.port i n hn p hp)).symm
theorem aP8(outs:List (List (List UInt8)))(i k:Nat):f9 outs ((i:Int),(k:Int))=(outs[i]?.getD [])[k]?.getD []:=by simp[f9]
def Whol(b:List UInt8):Prop:=ended (lines b)=b
theorem ai6:Whol []:=by simp[Whol,lines,l7,ended]
theorem al2(l:List (List UInt8))(h:∀s∈l,(10:UInt8)∉s):Whol (ended l):=by unfold Whol;rw[I1 l h]
theorem bD7(b:List UInt8):Whol (ended (lines b)):=al2 _ (E6 b)
theorem al3{a:List UInt8}(h:Whol a)(b:List UInt8):lines (a++b)=lines a++lines b:=by
 conv=>lhs;rw[<- h]
 exact av3 _ _ (E6 a)
theorem Whol.append{a b:List UInt8}(h:Whol a)(k:Whol b):Whol (a++b):=by unfold Whol;rw[al3 h,G6,h,k]
theorem aE0:∀(l:List (List UInt8)),(∀b∈l,Whol b)->Whol l.flatten
 | [],_=>ai6
 | b::r,h=>by
  rw[qe]
  exact (h b (by simp)).append (aE0 r (fun c hc=>h c (by simp[hc])))
theorem Whol.last{b:List UInt8}(h:Whol b)(hn:b≠[]):b.getLast hn=10:=by
 have h2:ended (lines b)≠[]:=by rw[h];exact hn
 have:=bx4 (lines b) h2;have e:(ended (lines b)).getLast h2=b.getLast hn:=by congr 1
 rw[<- e];exact this
theorem ag5:∀(b cur:List UInt8),ended (l7 cur (b++[10]))=cur++b++[10]
 | [],cur=>by simp[l7,ended]
 | c::r,cur=>by
  rw[zG,l7]
  by_cases h:c=10
  . rw[qF h,C7,ag5 r []]
    simp[h]
  . rw[qA h,ag5 r]
    simp
theorem bR2(b:List UInt8):Whol (b++[10]):=by have:=ag5 b [];simpa[Whol,lines]using this
theorem ap1:∀(l:List UInt8),l.dropWhile (fun c=>c != 10)=[]\/∃r,l.dropWhile (fun c=>c != 10)=10::r
 | []=>by simp
 | c::r=>by
  rw[List.dropWhile_cons]
  by_cases h:c=10
  . subst h;right;exact⟨r,by simp⟩
  . rw[qF (by simpa using h)];exact ap1 r
theorem aA2:∀(l:List UInt8),(10:UInt8)∉l.takeWhile (fun c=>c != 10)
 | []=>by simp
 | c::r=>by
  rw[List.takeWhile_cons]
  by_cases h:c=10
  . subst h;simp
  . rw[qF (by simpa using h)]
    have:=aA2 r
    simp only[xP,not_or]
    exact⟨fun e=>h e.symm,this⟩
theorem aZ7(b:List UInt8):b.take (l8 b)=(b.reverse.dropWhile (fun c=>c != 10)).reverse/\b.drop (l8 b)=(b.reverse.takeWhile (fun c=>c != 10)).reverse:=by
 have e:b=(b.reverse.dropWhile (fun c=>c != 10)).reverse++(b.reverse.takeWhile (fun c=>c != 10)).reverse:=by rw[<- List.reverse_append,List.takeWhile_append_dropWhile,List.reverse_reverse]
 have hl:l8 b=(b.reverse.dropWhile (fun c=>c != 10)).reverse.length:=by simp[l8]
 constructor
 . conv=>lhs;rw[hl];arg 2;rw[e]
   exact List.take_left
 . conv=>lhs;rw[hl];arg 2;rw[e]
   exact List.drop_left
theorem bq5(b:List UInt8):Whol (b.take (l8 b)):=by
 rw[(aZ7 b).1];rcases ap1 b.reverse with h | ⟨r,h⟩
 . rw[h];exact ai6
 . rw[h,List.reverse_cons];exact bR2 _
theorem aQ0(b:List UInt8):(10:UInt8)∉b.drop (l8 b):=by rw[(aZ7 b).2,List.mem_reverse];exact aA2 _
theorem bR3{w g d:List UInt8}(e:w++g=d)(hd:Whol d)(hg:(10:UInt8)∉g):g=[]:=by
 cases hgn:g with
 | nil=>rfl
 | cons c r=>
  exfalso
  have hne:g≠[]:=by rw[hgn];simp
  have hd0:d≠[]:=by rw[<- e];simp[hgn]
  have h1:=hd.last hd0
  have h2:d.getLast hd0=g.getLast hne:=by
   have:(w++g).getLast (by simp[hgn])=g.getLast hne:=List.getLast_append_of_ne_nil _ hne
   rw[<- this];congr 1;exact e.symm
  rw[h2]at h1
  exact hg (h1 ▸ List.getLast_mem hne)
theorem aH1:∀(l:List (List UInt8)),(∀s∈l,(10:UInt8)∉s)->(ended l).count 10=l.length
 | [],_=>by simp[ended]
 | s::l,h=>by
  have hs:=h s (by simp)
  rw[C7,List.count_append,List.count_append,List.count_eq_zero_of_not_mem hs,aH1 l (fun t ht=>h t (by simp[ht]))]
  simp
  omega
theorem bR4{c d:List UInt8}(h:c <+: d)(N:Nat)(hN:N<=c.count 10):(lines c).take N=(lines d).take N:=by
 obtain⟨r,rfl⟩:=h;have e:c=c.take (l8 c)++c.drop (l8 c):=(qk _ _).symm;have hw:=bq5 c;have hr:=aQ0 c;generalize c.take (l8 c)=W at *;generalize c.drop (l8 c)=g at *;subst e;rw[al3 hw,qp,al3 hw];have hc:(W++g).count 10=(lines W).length:=by
  rw[List.count_append,List.count_eq_zero_of_not_mem hr];conv=>lhs;rw[<- hw]
  rw[aH1 _ (E6 W)];omega
 rw[xF (by omega),xF (by omega)]
theorem aZ8{n:SNode}(h:j9 n=0)(fs:List SFile)(ins:List (List UInt8)):∀b∈j0 n fs ins,Whol b:=by
 obtain⟨h1,h2,_⟩:=E8 h;unfold j0;intro b hb;rcases H7 h1 with⟨h3 | h3,_⟩|⟨h3,h4,h5⟩|⟨h3,h4⟩|⟨h3,h4⟩
 . rw[qF h3,xI]at hb;rw[hb];exact bD7 _
 . rw[qA (by omega),qA (by omega),qA (by omega),qA (by omega)]at hb;simp at hb
 . rw[qA (by omega),qF h3,qg]at hb;obtain⟨k,_,rfl⟩:=hb;refine al2 _ (fun s hs=>?_);exact E6 _ s (xo (List.mem_of_mem_drop hs))
 . rw[qA (by omega),qA (by omega),qF h3,xI]at hb;rw[hb];exact al2 _ (Z9 _ h4 _ (E6 _))
 . rw[qA (by omega),qA (by omega),qA (by omega),qF h3,xI]at hb;rw[hb];refine al2 _ (as2 _ _ (am6 h4) _ (fun p hp=>?_));obtain⟨x,_,rfl⟩:=qg.1 hp;exact E6 x
structure PipeOk (d e c:List UInt8) (x:SPipe) (o:List UInt8) (ovw rdr:Bool):Prop where
 good:pchk x=0
 closed:x.closed=ovw
 shut:x.shut=true->rdr=true
 flow:x.shut=false->e=c++x.b++o
 all:x.shut=false->rdr=true->c=d
structure WaitOk (n:SNode) (ins:List (List UInt8)) (c:Nat->List UInt8) (e:Nat->List UInt8) (p:SProc) (m:Nat):Prop where
 pos:p.pos=m
 lt:ins.length≠0->m<ins.length
 past:∀(j:Nat)(d:List UInt8),j<m->ins[j]? = some d->c j=d
 next:∀j,m<j->j<ins.length->c j=[]
 sink:n.kind=5->p.got[0]?.getD []=[]
 pass:n.kind≠5->passes n=true->(∀j,j≠m->p.got[j]?.getD []=[])/\∃W,(10:UInt8)∉p.got[m]?.getD []/\c m=W++p.got[m]?.getD []/\Whol W/\e 0=through n ((ins.take m).flatten++W)
 hold:n.kind≠5->passes n=false->(∀j,j<ins.length->p.got[j]?.getD []=c j)/\(∀k,e k=[])/\(n.kind=3->n.c.kind=9->((c 0).count 10:Int)<n.c.n)
structure ProcOk (n:SNode) (ds ins:List (List UInt8)) (c e:Nat->List UInt8) (p:SProc) (sunk:List UInt8):Prop where
 glen:p.got.length=ins.length
 olen:p.out.length=ds.length
 rng:0<=p.pos/\p.pos<=ins.length
 ovrd:p.ov=true->p.rd=true
 ovout:p.ov=true->∀b∈p.out,b=[]
 pre:∀(k:Nat)(d:List UInt8),ds[k]? = some d->e k <+: d
 cpre:∀(j:Nat)(d:List UInt8),ins[j]? = some d->c j <+: d
 rde:p.rd=true->∀(k:Nat)(d:List UInt8),ds[k]? = some d->e k=d
 small:∀j,j<ins.length->(p.got[j]?.getD []).length<=(c j).length
 osmall:∀(k:Nat)(d:List UInt8),ds[k]? = some d->(p.out[k]?.getD []).length<=d.length
 snk:n.kind=5->sunk=c 0
 snk2:n.kind=5->p.rd=true->∀d,ins[0]? = some d->c 0=d
 wait:p.rd=false->∃m,WaitOk n ins c e p m
structure MInv (ns:List SNode) (fs:List SFile) (room:Int) (M:SMach) (C:Nat->List UInt8) (E:Nat->Nat->List UInt8):Prop where
 ens:M.ns=ns
 efs:M.fs=fs
 plen:M.ps.length=ns.length
 xlen:M.pipes.length=(j3 ns).length
 proc:∀(i:Nat)(n:SNode)(p:SProc),ns[i]? = some n->M.ps[i]? = some p->ProcOk n (j0 n fs (n.ins.map (f9 (j4 fs [] ns)))) (n.ins.map (f9 (j4 fs [] ns))) (fun j=>C (b7 ns i+j)) (E i) p M.sunk
 pipe:∀(r:Nat)(n:SNode)(j i k:Nat)(pr pw:SProc)(x:SPipe),ns[r]? = some n->n.ins[j]? = some ((i:Int),(k:Int))->M.ps[r]? = some pr->M.ps[i]? = some pw->M.pipes[b7 ns r+j]? = some x ->
  x.room=roomOf ns room ((i:Int),(k:Int))/\PipeOk (f9 (j4 fs [] ns) ((i:Int),(k:Int))) (E i k) (C (b7 ns r+j)) x (pw.out[k]?.getD []) pw.ov pr.rd
theorem aa9{α:Type}{l:List α}{i j:Nat}{a b:α}(h:(l.set i a)[j]? = some b):(j=i/\b=a)\/(j≠i/\l[j]? = some b):=by
 rw[xJ]at h;by_cases e:i=j
 .
  subst e;rw[qF rfl]at h;split at h
  . left;injection h with h;exact⟨rfl,h.symm⟩
  . cases h
 . rw[qA e]at h;exact Or.inr ⟨fun q=>e q.symm,h⟩
theorem cc0{n:SNode}(h:j9 n=0)(fs:List SFile)(ins:List (List UInt8)){k:Nat}(hk:(k:Int)<nouts n):k<(j0 n fs ins).length:=by have:=o5 h fs ins;omega
theorem ar5{ns:List SNode}(g:RightG ns)(fs:List SFile){i k:Nat}{m:SNode}(hm:ns[i]? = some m)(hk:(k:Int)<nouts m):
 (j0 m fs (m.ins.map (f9 (j4 fs [] ns))))[k]? = some (f9 (j4 fs [] ns) ((i:Int),(k:Int))):=by rw[aP8,g.outs fs hm];have:=cc0 (g.node m (mGt hm)) fs (m.ins.map (f9 (j4 fs [] ns))) hk;simp only[xG];rw[gEl this];rfl
theorem aQ1{n:SNode}(h:j9 n=0)(hp:passes n=true):n.ins.length≠0:=by
 obtain⟨h1,h2,_⟩:=E8 h;unfold passes at hp;simp only[Bool.or_eq_true,zA,xx]at hp;unfold J0 at h2;rcases hp with⟨h3,_⟩|⟨h3,_⟩
 . rw[qA (by omega),qF h3]at h2;have:=qc h2;omega
 . rw[qA (by omega),qA (by omega)]at h2;have:=qc h2;omega
theorem ae8{ns:List SNode}{fs:List SFile}{room:Int}{M:SMach}{C:Nat->List UInt8}{E:Nat->Nat->List UInt8}(g:RightG ns)(h:MInv ns fs room M C E){a:Nat}{n:SNode}{p:SProc}(hn:ns[a]? = some n)(hp:M.ps[a]? = some p)
 (p':SProc) (X:List SPipe) (s':List UInt8) (C':Nat->List UInt8) (e':Nat->List UInt8) (hX:X.length=M.pipes.length) (hov:p'.ov=p.ov)
 (hpr:ProcOk n (j0 n fs (n.ins.map (f9 (j4 fs [] ns)))) (n.ins.map (f9 (j4 fs [] ns))) (fun j=>C' (b7 ns a+j)) e' p' s')
 (hs:n.kind≠5->s'=M.sunk)
 (Ju:∀q,(∀m,m<n.ins.length->q≠b7 ns a+m)->X[q]? = M.pipes[q]? /\ C' q=C q)
 (Ab:∀(m i k:Nat)(pw:SProc)(x y:SPipe),n.ins[m]? = some ((i:Int),(k:Int))->M.ps[i]? = some pw->M.pipes[b7 ns a+m]? = some y->X[b7 ns a+m]? = some x ->
  x.room=y.room/\PipeOk (f9 (j4 fs [] ns) ((i:Int),(k:Int))) (E i k) (C' (b7 ns a+m)) x (pw.out[k]?.getD []) pw.ov p'.rd)
 (Am:∀k:Nat,(k:Int)<nouts n->∃z,e' k=E a k++z/\(p'.out[k]?.getD [])=(p.out[k]?.getD [])++z):
 MInv ns fs room ⟨M.ns,M.fs,X,M.ps.set a p',s'⟩ C' (fun i=>if i=a then e' else E i):=by
 have hal:a<M.ps.length:=(gSm hp).1;have Pg:∀i n',ns[i]? = some n'->i≠a->∀j,j<n'.ins.length->C' (b7 ns i+j)=C (b7 ns i+j):=by intro i n' hn' hi j hj;refine (Ju _ (fun m hm e=>hi ?_)).2;exact (K8 hn' hn hj hm e).1
 refine⟨h.ens,h.efs,by simpa using h.plen,hX.trans h.xlen,?_,?_⟩
 .
  intro i n' q hn' hq;rcases aa9 hq with⟨rfl,rfl⟩|⟨hi,hq⟩
  . rw[hn]at hn';injection hn' with hn';subst hn';simp only[if_true];exact hpr
  .
   have ho:=h.proc i n' q hn' hq;simp only[qA hi];have Lq:(n'.ins.map (f9 (j4 fs [] ns))).length=n'.ins.length:=qM _;have hlt:∀j,n'.ins.length<=j->(q.got[j]?.getD [])=[]:=fun j hj=>by rw[qm (by rw[ho.glen,Lq];exact hj)];rfl
   have hCm:∀j,j<(n'.ins.map (f9 (j4 fs [] ns))).length->C' (b7 ns i+j)=C (b7 ns i+j):=fun j hj=>Pg i n' hn' hi j (by rw[<- Lq];exact hj);have hCd:∀(j:Nat)(d:List UInt8),(n'.ins.map (f9 (j4 fs [] ns)))[j]? = some d->C' (b7 ns i+j)=C (b7 ns i+j):=fun j d hd=>hCm j (gSm hd).1;refine⟨ho.glen,ho.olen,ho.rng,ho.ovrd,ho.ovout,ho.pre,?_,ho.rde,?_,ho.osmall,?_,fun h5 hr5 d hd=>by rw[hCd 0 d hd];exact ho.snk2 h5 hr5 d hd,?_⟩
   . intro j d hd;rw[hCd j d hd];exact ho.cpre j d hd
   . intro j hj;rw[hCm j hj];exact ho.small j hj
   . intro h5;have h1:n'.ins.length=1:=(A2 (g.node n' (mGt hn'))).2 (Or.inr (Or.inr h5));have h6:n.kind≠5:=fun h6=>hi (by have:=(g.sink i n' hn').1 h5;have:=(g.sink a n hn).1 h6;omega);rw[hs h6,hCm 0 (by omega)];exact ho.snk h5
   .
    intro hrd;obtain⟨m,hw⟩:=ho.wait hrd;refine⟨m,hw.pos,hw.lt,?_,?_,hw.sink,?_,?_⟩
    . intro j d hj hd;rw[hCd j d hd];exact hw.past j d hj hd
    . intro j hj hjl;rw[hCm j hjl];exact hw.next j hj hjl
    . intro h5 Jk;have h0:n'.ins.length≠0:=aQ1 (g.node n' (mGt hn')) Jk;rw[hCm m (hw.lt (by omega))];exact hw.pass h5 Jk
    . intro h5 Jk;obtain⟨q1,q2,q3⟩:=hw.hold h5 Jk;refine⟨fun j hj=>by rw[hCm j hj];exact q1 j hj,q2,fun h3 h9=>?_⟩;have h1:n'.ins.length=1:=(A2 (g.node n' (mGt hn'))).2 (Or.inr (Or.inl h3));rw[hCm 0 (by omega)];exact q3 h3 h9
 .
  intro r n' j i k pr pw x hn' hj hr hi hx;have hjl:j<n'.ins.length:=(gSm hj).1;obtain⟨i2,k2,m,e,hir,hm,hk⟩:=g.src hn' hj;simp only[zT,Int.natCast_inj]at e;obtain⟨rfl,rfl⟩:=e;have hne:i≠r:=by omega
  by_cases hra:r=a
  .
   subst hra;rw[hn]at hn';injection hn' with hn';subst hn';rcases aa9 hr with⟨_,rfl⟩|⟨hc,_⟩
   . rcases aa9 hi with⟨hc,_⟩|⟨_,hi⟩
     . exact absurd hc hne
     . obtain⟨y,hy⟩:∃y,M.pipes[b7 ns r+j]? = some y:=by refine⟨_,gEl ?_⟩;rw[h.xlen];exact M1 hn hjl
       obtain⟨q1,q2⟩:=Ab j i k pw x y hj hi hy hx;obtain⟨q3,_⟩:=h.pipe r n j i k p pw y hn hj hp hi hy;simp only[qA hne];exact⟨q1.trans q3,q2⟩
   . exact absurd rfl hc
  .
   rcases aa9 hr with⟨hc,_⟩|⟨_,hr2⟩
   . exact absurd hc hra
   . obtain⟨o1,o2⟩:=Ju (b7 ns r+j) (fun m' hm' e=>hra (K8 hn' hn hjl hm' e).1);rw[show (⟨M.ns,M.fs,X,M.ps.set a p',s'⟩:SMach).pipes=X from rfl,o1]at hx;rw[o2];rcases aa9 hi with⟨rfl,rfl⟩|⟨hia,hi⟩
     . obtain⟨q1,q2⟩:=h.pipe r n' j i k pr p x hn' hj hr2 hp hx;simp only[if_true];rw[hn]at hm;injection hm with hm;subst hm;obtain⟨z,z1,z2⟩:=Am k hk;refine⟨q1,q2.good,by rw[hov];exact q2.closed,q2.shut,fun hsh=>?_,q2.all⟩;rw[z1,z2,q2.flow hsh];simp
     . simp only[qA hia];exact h.pipe r n' j i k pr pw x hn' hj hr2 hi hx
theorem bq6{ns:List SNode}{fs:List SFile}{room:Int}{M:SMach}{C:Nat->List UInt8}{E:Nat->Nat->List UInt8}(g:RightG ns)(h:MInv ns fs room M C E){a:Nat}{n:SNode}{p:SProc}(hn:ns[a]? = some n)(hp:M.ps[a]? = some p)
 (p':SProc) (X:List SPipe) (hX:X.length=M.pipes.length) (hrd:p'.rd=p.rd)
 (hpr:ProcOk n (j0 n fs (n.ins.map (f9 (j4 fs [] ns)))) (n.ins.map (f9 (j4 fs [] ns))) (fun j=>C (b7 ns a+j)) (E a) p' M.sunk)
 (Ju:∀q,(∀k:Nat,(k:Int)<nouts n->q≠D2 ns ((a:Int),(k:Int)))->X[q]? = M.pipes[q]?)
 (Ab:∀(k:Nat)(x y:SPipe),(k:Int)<nouts n->M.pipes[D2 ns ((a:Int),(k:Int))]? = some y->X[D2 ns ((a:Int),(k:Int))]? = some x ->
  x.room=y.room/\∀d c rdr,PipeOk d (E a k) c y (p.out[k]?.getD []) p.ov rdr->PipeOk d (E a k) c x (p'.out[k]?.getD []) p'.ov rdr):
 MInv ns fs room ⟨M.ns,M.fs,X,M.ps.set a p',M.sunk⟩ C E:=by
 refine⟨h.ens,h.efs,by simpa using h.plen,hX.trans h.xlen,?_,?_⟩
 .
  intro i n' q hn' hq;rcases aa9 hq with⟨rfl,rfl⟩|⟨hi,hq⟩
  . rw[hn]at hn';injection hn' with hn';subst hn';exact hpr
  . exact h.proc i n' q hn' hq
 .
  intro r n' j i k pr pw x hn' hj hr hi hx;have hjl:j<n'.ins.length:=(gSm hj).1;obtain⟨i2,k2,m,e,hir,hm,hk⟩:=g.src hn' hj;simp only[zT,Int.natCast_inj]at e;obtain⟨rfl,rfl⟩:=e;have Au:=g.into hn' hj;obtain⟨pr0,hr0,erd⟩:∃pr0,M.ps[r]? = some pr0/\pr.rd=pr0.rd:=by
   rcases aa9 hr with⟨rfl,rfl⟩|⟨_,hr⟩
   . exact⟨p,hp,hrd⟩
   . exact⟨pr,hr,rfl⟩
  obtain⟨y,hy⟩:∃y,M.pipes[b7 ns r+j]? = some y:=by refine⟨_,gEl ?_⟩;rw[h.xlen];exact M1 hn' hjl
  rw[erd];rcases aa9 hi with⟨rfl,rfl⟩|⟨hia,hi2⟩
  . rw[hn]at hm;injection hm with hm;subst hm;obtain⟨q1,q2⟩:=h.pipe r n' j i k pr0 p y hn' hj hr0 hp hy;obtain⟨o1,o2⟩:=Ab k x y hk (by rw[Au];exact hy) (by rw[Au];exact hx);exact⟨o1.trans q1,o2 _ _ _ q2⟩
  .
   have ho:=Ju (b7 ns r+j) (fun k' hk' e=>by
    obtain⟨r',j',n'',Fb,hj',_,e2,_⟩:=g.reader hn hk'
    have Gv:j'<n''.ins.length:=(gSm hj').1
    obtain⟨rfl,rfl⟩:=K8 hn' Fb hjl Gv (e.trans e2)
    rw[hn']at Fb
    injection Fb with Fb
    subst Fb
    rw[hj]at hj'
    simp only[qW,zT,Int.natCast_inj]at hj'
    exact hia hj'.1)
   rw[show (⟨M.ns,M.fs,X,M.ps.set a p',M.sunk⟩:SMach).pipes=X from rfl,ho]at hx;exact h.pipe r n' j i k pr0 pw x hn' hj hr0 hi2 hx
theorem aw5{x:SPipe}{b:List UInt8}(h:pchk x=0)(hc:x.closed=false)(hs:x.shut=true):pwrite x b=(⟨[],x.room,x.closed,x.shut⟩,b.length,0):=by unfold pwrite;rw[qA (by simp[h]),qA (by simp[hc]),qF hs]
theorem aw6{x:SPipe}{b:List UInt8}(h:pchk x=0)(hc:x.closed=false)(hs:x.shut=false):pwrite x b=(⟨x.b++b.take (pfit b.length x.b.length x.room),x.room,x.closed,x.shut⟩,pfit b.length x.b.length x.room,0):=by unfold pwrite;rw[qA (by simp[h]),qA (by simp[hc]),qA (by simp[hs])]
theorem Q0{x:SPipe}(h:pchk x=0):0<=x.room/\x.room<=1000/\(x.b.length:Int)<=plim x.room/\(x.shut=true->x.b.length=0):=bg5 h
theorem I6{x:SPipe}(h0:0<=x.room)(h1:x.room<=1000)(h2:(x.b.length:Int)<=plim x.room)(h3:x.shut=true->x.b.length=0):pchk x=0:=by unfold pchk pck;rw[qA (by omega),qA (by omega),qA];rintro⟨h4,h5⟩;have:=h3 h4;omega
theorem WaitOk.congr{n:SNode}{ins:List (List UInt8)}{c e:Nat->List UInt8}{p p':SProc}{m:Nat}(h:WaitOk n ins c e p m)(h1:p'.got=p.got)(h2:p'.pos=p.pos):WaitOk n ins c e p' m:=by
 obtain⟨a1,a2,a3,a4,a5,a6,a7⟩:=h;refine⟨by rw[h2];exact a1,a2,a3,a4,?_,?_,?_⟩
 . rw[h1];exact a5
 . rw[h1];exact a6
 . rw[h1];exact a7
theorem Q1{l:List (List UInt8)}{k j:Nat}{b:List UInt8}(hk:k<l.length):((l.set k b)[j]?.getD [])=if j=k then b else l[j]?.getD []:=by
 rw[xJ];by_cases e:k=j
 . subst e;simp[hk]
 . rw[qA e,qA (fun q=>e q.symm)]
theorem bR5{ns:List SNode}{fs:List SFile}{room:Int}{M:SMach}{C:Nat->List UInt8}{E:Nat->Nat->List UInt8}(g:RightG ns)(h:MInv ns fs room M C E){a:Nat}{n:SNode}{p:SProc}(hn:ns[a]? = some n)(hp:M.ps[a]? = some p)(hov:p.ov=false)
 {k:Nat} {b:List UInt8} (hb:p.out[k]? = some b):
 MInv ns fs room ((M.setX (D2 M.ns ((a:Int),(k:Int))) (pwrite (M.pipe (D2 M.ns ((a:Int),(k:Int)))) b).1).setP a (p.setOut k (b.drop (pwrite (M.pipe (D2 M.ns ((a:Int),(k:Int)))) b).2.1))) C E:=by
 have hpr:=h.proc a n p hn hp;have hkl:k<p.out.length:=(gSm hb).1;have hch:=g.node n (mGt hn);have hk:(k:Int)<nouts n:=by have:=o5 hch fs (n.ins.map (f9 (j4 fs [] ns)));have:=hpr.olen;omega
 obtain⟨r,j,n',hn',hj,har,Au,hql⟩:=g.reader hn hk;obtain⟨x,hx⟩:∃x,M.pipes[b7 ns r+j]? = some x:=⟨_,gEl (by rw[h.xlen];exact hql)⟩;obtain⟨pr,hr⟩:∃pr,M.ps[r]? = some pr:=⟨_,gEl (by rw[h.plen];exact (gSm hn').1)⟩;obtain⟨q1,q2⟩:=h.pipe r n' j a k pr p x hn' hj hr hp hx;rw[h.ens,Au];have hxp:M.pipe (b7 ns r+j)=x:=by unfold SMach.pipe;rw[hx];rfl
 rw[hxp];have hcl:x.closed=false:=q2.closed.trans hov;unfold SMach.setX SMach.setP;have hbd:p.out[k]?.getD []=b:=by rw[hb];rfl
 refine bq6 g h hn hp (p.setOut k _) _ (by simp) rfl ?_ ?_ ?_
 .
  refine⟨hpr.glen,by unfold SProc.setOut;simpa using hpr.olen,hpr.rng,fun h1=>?_,fun h1=>?_,hpr.pre,hpr.cpre,hpr.rde,hpr.small,?_,hpr.snk,hpr.snk2,fun h1=>?_⟩
  . exact absurd (hov.symm.trans h1) (by simp)
  . exact absurd (hov.symm.trans h1) (by simp)
  . intro k' d hd;unfold SProc.setOut;rw[Q1 hkl];have:=hpr.osmall k' d hd;split
    . rename_i e;subst e;rw[hbd]at this;rw[qo];omega
    . exact this
  . obtain⟨m,hw⟩:=hpr.wait h1;exact⟨m,hw.congr rfl rfl⟩
 . intro q hq;rw[xJ,qA];intro e;exact hq k hk (e.symm.trans Au.symm)
 .
  intro k' x' y hk' hy hx';by_cases e:k'=k
  .
   subst e;rw[Au]at hy hx';rw[hx]at hy;injection hy with hy;subst hy;rcases aa9 hx' with⟨_,rfl⟩|⟨hc,_⟩
   .
    have Av:=Q0 q2.good;by_cases hsh:x.shut=true
    . rw[aw5 q2.good hcl hsh];refine⟨rfl,fun d c rdr ho=>⟨?_,ho.closed,ho.shut,fun h2=>?_,fun h2=>?_⟩⟩
      . refine I6 Av.1 Av.2.1 ?_ (fun _=>rfl);show ((0:Nat):Int)<=plim x.room;have:=Av.2.2.1;omega
      . exact absurd (hsh.symm.trans h2) (by simp)
      . exact absurd (hsh.symm.trans h2) (by simp)
    . have Ud:x.shut=false:=by simpa using hsh
      rw[aw6 q2.good hcl Ud];refine⟨rfl,fun d c rdr ho=>⟨?_,ho.closed,ho.shut,fun h2=>?_,ho.all⟩⟩
      . refine I6 Av.1 Av.2.1 ?_ (fun h2=>absurd (Ud.symm.trans h2) (by simp));have h3:=bp9 (m:=b.length) Av.2.1 Av.2.2.1;have h4:pfit b.length x.b.length x.room<=b.length:=bg6;show ((x.b++b.take (pfit b.length x.b.length x.room)).length:Int)<=plim x.room;rw[qG,qL,ql h4];exact h3.2
      . have h3:=ho.flow Ud;rw[hbd]at h3;rw[h3];unfold SProc.setOut;rw[Q1 hkl,qF rfl];simp
   . exact absurd rfl hc
  .
   have hne:D2 ns ((a:Int),(k':Int))≠b7 ns r+j:=by intro e2;obtain⟨r',j',n'',Fb,hj',_,e3,_⟩:=g.reader hn hk';have hjl:j<n'.ins.length:=(gSm hj).1;have Gv:j'<n''.ins.length:=(gSm hj').1;obtain⟨rfl,rfl⟩:=K8 hn' Fb hjl Gv (e2.symm.trans e3);rw[hn']at Fb;injection Fb with Fb;subst Fb;rw[hj]at hj';simp only[qW,zT,Int.natCast_inj]at hj';exact e hj'.2.symm
   rcases aa9 hx' with⟨hc,_⟩|⟨_,hx2⟩
   . exact absurd hc hne
   . rw[hy]at hx2;injection hx2 with hx2;subst hx2;refine⟨rfl,fun d c rdr ho=>?_⟩;unfold SProc.setOut;rw[Q1 hkl,qA e];exact ho
theorem Q2(ns:List SNode)(i:Nat)(xs:List SPipe):∀K,(L6 ns i K xs).length=xs.length
 | 0=>rfl
 | K+1=>by rw[L6,List.length_modify,Q2 ns i xs K]
theorem aa3(ns:List SNode)(i:Nat)(xs:List SPipe):∀(K q:Nat)(x:SPipe),(L6 ns i K xs)[q]? = some x ->
 ∃y,xs[q]? = some y/\((∃k:Nat,k<K/\q=D2 ns ((i:Int),(k:Int)))->x=U1 y)/\((∀k:Nat,k<K->q≠D2 ns ((i:Int),(k:Int)))->x=y)
 | 0,q,x,h=>⟨x,h,fun ⟨k,hk,_⟩=>absurd hk (by omega),fun _=>rfl⟩
 | K+1,q,x,h=>by
  rw[L6,List.getElem?_modify]at h
  cases hz:(L6 ns i K xs)[q]? with
  | none=>rw[hz]at h;cases h
  | some z=>
   rw[hz]at h
   obtain⟨y,hy,h1,h2⟩:=aa3 ns i xs K q z hz
   have h':(if D2 ns ((i:Int),(K:Int))=q then U1 z else z)=x:=by
    injection h
   by_cases e:D2 ns ((i:Int),(K:Int))=q
   . rw[qF e]at h'
     refine⟨y,hy,fun _=>?_,fun hc=>absurd e.symm (hc K (by omega))⟩
     rw[<- h']
     by_cases hq:∃k:Nat,k<K/\q=D2 ns ((i:Int),(k:Int))
     . rw[h1 hq];rfl
     . rw[h2 (fun k hk he=>hq ⟨k,hk,he⟩)]
   .
    rw[qA e]at h'
    subst h'
    refine⟨y,hy,?_,?_⟩
    . rintro⟨k,hk,he⟩
      by_cases hkK:k=K
      . subst hkK;exact absurd he.symm e
      . exact h1 ⟨k,by omega,he⟩
    . intro hc
      exact h2 (fun k hk=>hc k (by omega))
theorem cl7{ns:List SNode}{fs:List SFile}{room:Int}{M:SMach}{C:Nat->List UInt8}{E:Nat->Nat->List UInt8}(g:RightG ns)(h:MInv ns fs room M C E){a:Nat}{n:SNode}{p:SProc}(hn:ns[a]? = some n)(hp:M.ps[a]? = some p)(hov:p.ov=false)(hrd:p.rd=true)
 (Am:∀b∈p.out,b=[]):MInv ns fs room (endS M a p) C E:=by
 have hpr:=h.proc a n p hn hp;have hch:=g.node n (mGt hn);have Ds:=o5 hch fs (n.ins.map (f9 (j4 fs [] ns)));have hol:=hpr.olen;unfold endS;rw[h.ens];have hens:(⟨ns,M.fs,L6 ns a p.out.length M.pipes,M.ps.set a ⟨p.got,p.pos,p.out,p.rd,true⟩,M.sunk⟩:SMach)=⟨M.ns,M.fs,L6 ns a p.out.length M.pipes,M.ps.set a ⟨p.got,p.pos,p.out,p.rd,true⟩,M.sunk⟩:=by rw[h.ens]
 rw[hens];refine bq6 g h hn hp ⟨p.got,p.pos,p.out,p.rd,true⟩ _ (Q2 _ _ _ _) rfl ?_ ?_ ?_
 . exact⟨hpr.glen,hpr.olen,hpr.rng,fun _=>hrd,fun _=>Am,hpr.pre,hpr.cpre,hpr.rde,hpr.small,hpr.osmall,hpr.snk,hpr.snk2,fun h1=>absurd (hrd.symm.trans h1) (by simp)⟩
 .
  intro q hq;by_cases hql:q<M.pipes.length
  . obtain⟨x,hx⟩:∃x,(L6 ns a p.out.length M.pipes)[q]? = some x:=⟨_,gEl (by rw[Q2];exact hql)⟩;obtain⟨y,hy,_,h2⟩:=aa3 _ _ _ _ _ _ hx;rw[hx,hy,h2 (fun k hk=>hq k (by omega))]
  . rw[qm (by rw[Q2];omega),qm (by omega)]
 . intro k x y hk hy hx;obtain⟨y',hy',h1,_⟩:=aa3 _ _ _ _ _ _ hx;rw[hy]at hy';injection hy' with hy';subst hy';rw[h1 ⟨k,by omega,rfl⟩];exact⟨rfl,fun d c rdr ho=>⟨ho.good,rfl,ho.shut,ho.flow,ho.all⟩⟩
theorem aa4{n:SNode}(h:passes n=true):(n.kind=4/\n.how=1)\/(n.kind=3/\N9 n.c.kind=true):=by unfold passes at h;simpa only[Bool.or_eq_true,zA,xx]using h
theorem ad3{n:SNode}(h:passes n=true){a:List UInt8}(ha:Whol a)(b:List UInt8):through n (a++b)=through n a++through n b:=by
 unfold through;rcases aa4 h with⟨h4,_⟩|⟨h3,h5⟩
 . rw[qF h4,qF h4,qF h4]
 . rw[qA (by omega),qA (by omega),qA (by omega),al3 ha,ad9 _ h5,G6]
theorem aH2{n:SNode}(h:passes n=true):through n []=[]:=by
 have h1:=ad3 h ai6 [];rw[xH]at h1;have h2:(through n []).length=(through n []).length+(through n []).length:=by
  conv=>lhs;rw[h1]
  simp
 exact qn.1 (by omega)
theorem am0:∀(l:List (List UInt8)),(∀b∈l,Whol b)->ended ((l.map lines).flatten)=l.flatten
 | [],_=>rfl
 | b::r,h=>by
  rw[qs,qe,qe,G6,h b (by simp),am0 r (fun c hc=>h c (by simp[hc]))]
theorem ap2{n:SNode}(h:passes n=true)(hc:j9 n=0)(fs:List SFile)(ins:List (List UInt8))(hl:ins.length=n.ins.length)(hw:∀b∈ins,Whol b):j0 n fs ins=[through n ins.flatten]:=by
 unfold j0 through;rcases aa4 h with⟨h4,h1⟩|⟨h3,h5⟩
 . rw[qA (by omega),qA (by omega),qA (by omega),qF h4,qF h4];unfold joined;rw[qA (by omega),qA (by omega),qA (by omega),am0 _ hw]
 . have h1:=(A2 hc).2 (Or.inr (Or.inl h3));rw[qA (by omega),qA (by omega),qF h3,qA (by omega)]
   match ins,(hl.trans h1:ins.length=1) with
   | [b],_=>simp
theorem aH3{n:SNode}(h:passes n=true):nouts n=1:=by
 unfold nouts;rcases aa4 h with⟨h4,h1⟩|⟨h3,h5⟩
 . rw[qA (by omega),qA (by omega)]
 . rw[qA (by omega),qA (by omega)]
theorem bh0{n:SNode}{ds ins:List (List UInt8)}{c e:Nat->List UInt8}{p:SProc}{sunk:List UInt8}(fs:List SFile)(hc:j9 n=0)(gl:p.got.length=ins.length)(ol:p.out.length=ds.length)(rng:0<=p.pos/\p.pos<=ins.length)(hov:p.ov=false)(Am:∀b∈p.out,b=[])
 (dl:ds.length=(j0 n fs p.got).length) (cpre:∀(j:Nat)(d:List UInt8),ins[j]? = some d->c j <+: d) (snk:n.kind=5->sunk=c 0) (snk2:n.kind=5->∀d,ins[0]? = some d->c 0=d)
 (he:∀(k:Nat)(d:List UInt8),ds[k]? = some d->e k++((j0 n fs p.got)[k]?.getD [])=d):
 ProcOk n ds ins c (fun k=>e k++((j0 n fs p.got)[k]?.getD [])) (C3 n fs p) sunk /\
 ∀k:Nat,k<ds.length->((C3 n fs p).out[k]?.getD [])=(p.out[k]?.getD [])++((j0 n fs p.got)[k]?.getD []):=by
 have hz:∀k:Nat,k<ds.length->((C3 n fs p).out[k]?.getD [])=(p.out[k]?.getD [])++((j0 n fs p.got)[k]?.getD []):=by intro k hk;unfold C3;simp only[List.getElem?_zipWith];rw[gEl (by omega:k<p.out.length),gEl (by omega:k<(j0 n fs p.got).length)];rfl
 have ho:∀k:Nat,(p.out[k]?.getD [])=[]:=by
  intro k
  cases hk:p.out[k]? with
  | none=>rfl
  | some b=>exact Am b (mGt hk)
 refine⟨⟨?_,?_,rng,fun h=>?_,fun h=>?_,?_,cpre,?_,?_,?_,snk,fun h _=>snk2 h,fun h=>?_⟩,hz⟩
 . unfold C3;simpa using gl
 . unfold C3;simp only[xg];omega
 . exact absurd (hov.symm.trans h) (by simp)
 . exact absurd (hov.symm.trans h) (by simp)
 . intro k d hd;show e k++_ <+: d;rw[he k d hd];exact List.prefix_refl _
 . intro _ k d hd;exact he k d hd
 . intro j hj;unfold C3;simp only[qQ]
   cases p.got[j]? <;> simp
 . intro k d hd;rw[hz k (gSm hd).1,ho k,<- he k d hd];simp
 . exact absurd h (by simp[C3])
theorem bD8{n:SNode}(h:n.kind=5){fs:List SFile}{ins:List (List UInt8)}:j0 n fs ins=[]:=by unfold j0;rw[qA (by omega),qA (by omega),qA (by omega),qA (by omega)]
theorem bq7{e c b o d:List UInt8}(h:e <+: d)(he:e=c++b++o)(k:Nat):c++b.take k <+: d:=by
 obtain⟨r,rfl⟩:=h;subst he;refine⟨b.drop k++o++r,?_⟩;have e:b.take k++(b.drop k++(o++r))=b++(o++r):=by rw[<- qp,qk]
 simp only[qp];rw[e]
theorem cc1{ns:List SNode}{fs:List SFile}{room:Int}{M:SMach}{C:Nat->List UInt8}{E:Nat->Nat->List UInt8}(g:RightG ns)(h:MInv ns fs room M C E){a:Nat}{n:SNode}{p:SProc}(hn:ns[a]? = some n)(hp:M.ps[a]? = some p)(hov:p.ov=false)(hrd:p.rd=false)
 (Am:∀b∈p.out,b=[]) (Bc:p.got≠[]) (hcl:(M.pipe (b7 ns a+p.pos.toNat)).closed=true) (hem:(M.pipe (b7 ns a+p.pos.toNat)).b=[]):
 ∃E',MInv ns fs room (if p.pos+1=p.got.length then M.setP a (C3 n M.fs ⟨p.got,p.pos+1,p.out,p.rd,p.ov⟩) else M.setP a ⟨p.got,p.pos+1,p.out,p.rd,p.ov⟩) C E':=by
 have hpr:=h.proc a n p hn hp;have hch:=g.node n (mGt hn);have Ds:=o5 hch fs (n.ins.map (f9 (j4 fs [] ns)));have Ce:(n.ins.map (f9 (j4 fs [] ns))).length=n.ins.length:=qM _;have hgl:p.got.length=n.ins.length:=hpr.glen.trans Ce;have hg0:n.ins.length≠0:=by intro e;exact Bc (qn.1 (hgl.trans e))
 obtain⟨m,hw⟩:=hpr.wait hrd;have hmt:p.pos.toNat=m:=by rw[hw.pos];simp
 rw[hmt]at hcl hem;have hml:m<n.ins.length:=by rw[<- Ce];exact hw.lt (by omega)
 obtain⟨po,hpo⟩:∃po,n.ins[m]? = some po:=⟨_,gEl hml⟩;obtain⟨i,k,m',epo,hia,hm',hk⟩:=g.src hn hpo;subst epo;obtain⟨x,hx⟩:∃x,M.pipes[b7 ns a+m]? = some x:=⟨_,gEl (by rw[h.xlen];exact M1 hn hml)⟩;have hxp:M.pipe (b7 ns a+m)=x:=by unfold SMach.pipe;rw[hx];rfl
 rw[hxp]at hcl hem;obtain⟨pw,hpw⟩:∃pw,M.ps[i]? = some pw:=⟨_,gEl (by rw[h.plen];exact (gSm hm').1)⟩;obtain⟨q1,q2⟩:=h.pipe a n m i k p pw x hn hpo hp hpw hx;have hsh:x.shut=false:=by
  cases hs:x.shut with
  | false=>rfl
  | true=>exact absurd (hrd.symm.trans (q2.shut hs)) (by simp)
 have hwp:=h.proc i m' pw hm' hpw;have hwo:pw.ov=true:=q2.closed.symm.trans hcl;have hds:=ar5 g fs hm' hk;have hEd:E i k=f9 (j4 fs [] ns) ((i:Int),(k:Int)):=hwp.rde (hwp.ovrd hwo) k _ hds;have hpo0:pw.out[k]?.getD []=[]:=by
  cases hk2:pw.out[k]? with
  | none=>rfl
  | some b=>exact hwp.ovout hwo b (mGt hk2)
 have hCm:C (b7 ns a+m)=f9 (j4 fs [] ns) ((i:Int),(k:Int)):=by have:=q2.flow hsh;rw[hem,hpo0,hEd]at this;simpa using this.symm
 have Gw:(n.ins.map (f9 (j4 fs [] ns)))[m]? = some (f9 (j4 fs [] ns) ((i:Int),(k:Int))):=by rw[qQ,hpo];rfl
 have hwh:∀b∈n.ins.map (f9 (j4 fs [] ns)),Whol b:=by
  intro b hb;obtain⟨j,hj⟩:=qb hb;rw[qQ]at hj
  cases hq:n.ins[j]? with
  | none=>rw[hq]at hj;cases hj
  | some po=>
   rw[hq]at hj
   injection hj with hj
   obtain⟨i2,k2,m2,e2,_,hm2,hk2⟩:=g.src hn hq
   subst e2
   rw[<- hj]
   exact aZ8 (g.node m2 (mGt hm2)) fs _ _ (mGt (ar5 g fs hm2 hk2))
 generalize Ue:n.ins.map (f9 (j4 fs [] ns))=INS at *;have hgm:passes n=true->n.kind≠5->(∀j:Nat,p.got[j]?.getD []=[])/\E a 0=through n ((INS.take (m+1)).flatten):=by
  intro hps h5;obtain⟨w1,W,w2,w3,w4,w5⟩:=hw.pass h5 hps;have hg:=bR3 (w3.symm.trans hCm) (hwh _ (mGt Gw)) w2;refine⟨fun j=>?_,?_⟩
  . by_cases hj:j=m
    . subst hj;exact hg
    . exact w1 j hj
  . rw[w5,qX,Gw];have:W=f9 (j4 fs [] ns) ((i:Int),(k:Int)):=by rw[<- hCm];show W=C (b7 ns a+m);rw[w3,hg,xH]
    rw[this];simp
 have Jl:∀(j:Nat)(d:List UInt8),j<m+1->INS[j]? = some d->C (b7 ns a+j)=d:=by
  intro j d hj hd;by_cases e:j=m
  . subst e;rw[Gw]at hd;injection hd with hd;rw[hCm,hd]
  . exact hw.past j d (by omega) hd
 unfold SMach.setP;have Lr:p.pos+1=((m+1:Nat):Int):=by rw[hw.pos];omega
 by_cases Bz:p.pos+1=p.got.length
 .
  rw[qF Bz,show C3 n M.fs ⟨p.got,p.pos+1,p.out,p.rd,p.ov⟩=C3 n fs ⟨p.got,p.pos+1,p.out,p.rd,p.ov⟩ by rw[h.efs]];have hm1:m+1=n.ins.length:=by omega
  obtain⟨G,hG⟩:=qE (j0 n fs p.got);have hcntG:=o5 hch fs p.got;have hE:∀(kk:Nat)(d:List UInt8),(j0 n fs INS)[kk]? = some d->E a kk++((j0 n fs p.got)[kk]?.getD [])=d:=by
   intro kk d hd;by_cases h5:n.kind=5
   . rw[bD8 h5]at hd;simp at hd
   .
    cases hps:passes n with
    | true=>
     obtain⟨y1,y2⟩:=hgm hps h5
     have hgw:∀b∈p.got,Whol b:=by
      intro b hb
      obtain⟨j,hj⟩:=qb hb
      have:=y1 j
      rw[hj]at this
      simp at this
      rw[this];exact ai6
     have hgf:p.got.flatten=[]:=by
      rw[List.flatten_eq_nil_iff]
      intro b hb
      obtain⟨j,hj⟩:=qb hb
      have:=y1 j
      rw[hj]at this
      simpa using this
     rw[ap2 hps hch fs INS Ce hwh]at hd
     rw[ap2 hps hch fs p.got hgl hgw,hgf,aH2 hps]
     rw[qO (by omega)]at y2
     have hk0:kk=0:=by
      have:=(gSm hd).1
      simp at this
      exact this
     subst hk0
     simp only[xM,qW]at hd
     rw[y2,hd]
     simp
    | false=>
     obtain⟨y1,y2,_⟩:=hw.hold h5 hps
     have hgi:p.got=INS:=by
      apply xX
      intro j
      by_cases hj:j<INS.length
      . have e1:=y1 j hj
        have e2:=Jl j INS[j] (by omega) (gEl hj)
        have e3:j<p.got.length:=by omega
        rw[gEl e3]at e1 ⊢
        rw[gEl hj,<- e2]
        congr 1
      . rw[qm (by omega),qm (by omega)]
     rw[y2 kk,hgi,hd]
     rfl
  obtain⟨z1,z2⟩:=bh0 (n:=n) (ds:=j0 n fs INS) (ins:=INS) (c:=fun j=>C (b7 ns a+j)) (e:=E a) (p:=⟨p.got,p.pos+1,p.out,p.rd,p.ov⟩) (sunk:=M.sunk) fs hch hpr.glen hpr.olen ⟨by show 0<=p.pos+1;omega,by show p.pos+1<=_;omega⟩ hov Am (by show (j0 n fs INS).length=(j0 n fs p.got).length;omega) hpr.cpre hpr.snk (fun _ d hd=>Jl 0 d (by omega) hd) hE;refine⟨fun i=>if i=a then (fun k=>E a k++((j0 n fs p.got)[k]?.getD [])) else E i,?_⟩;refine ae8 g h hn hp (C3 n fs ⟨p.got,p.pos+1,p.out,p.rd,p.ov⟩) M.pipes M.sunk C _ rfl rfl (by rw[Ue];exact z1) (fun _=>rfl) (fun q _=>⟨rfl,rfl⟩) ?_ ?_
  . intro m2 i2 k2 pw2 x2 y Bv Dx hy hx2;rw[hy]at hx2;injection hx2 with hx2;subst hx2;obtain⟨s1,s2⟩:=h.pipe a n m2 i2 k2 p pw2 y hn Bv hp Dx hy;refine⟨rfl,s2.good,s2.closed,fun _=>rfl,s2.flow,fun _ _=>?_⟩;have hm2:m2<n.ins.length:=(gSm Bv).1;exact Jl m2 _ (by omega) (by rw[<- Ue,qQ,Bv];rfl)
  . intro kk hkk;exact⟨_,rfl,z2 kk (by omega)⟩
 .
  rw[qA Bz];have hm1:m+1<n.ins.length:=by omega
  refine⟨fun i=>if i=a then E a else E i,?_⟩;refine ae8 g h hn hp ⟨p.got,p.pos+1,p.out,p.rd,p.ov⟩ M.pipes M.sunk C (E a) rfl rfl ?_ (fun _=>rfl) (fun q _=>⟨rfl,rfl⟩) ?_ ?_
  . rw[Ue];refine⟨hpr.glen,hpr.olen,⟨by show 0<=p.pos+1;omega,by show p.pos+1<=_;omega⟩,hpr.ovrd,hpr.ovout,hpr.pre,hpr.cpre,hpr.rde,hpr.small,hpr.osmall,hpr.snk,hpr.snk2,fun _=>⟨m+1,Lr,fun _=>by omega,Jl,fun j hj hjl=>hw.next j (by omega) hjl,hw.sink,fun h5 hps=>?_,hw.hold⟩⟩;obtain⟨y1,y2⟩:=hgm hps h5;refine⟨fun j _=>y1 j,[],by show (10:UInt8)∉p.got[m+1]?.getD [];rw[y1];simp,?_,ai6,?_⟩
    . show C (b7 ns a+(m+1))=[]++p.got[m+1]?.getD [];rw[y1];exact hw.next (m+1) (by omega) (by omega)
    . rw[xH];exact y2
  . intro m2 i2 k2 pw2 x2 y Bv Dx hy hx2;rw[hy]at hx2;injection hx2 with hx2;subst hx2;obtain⟨s1,s2⟩:=h.pipe a n m2 i2 k2 p pw2 y hn Bv hp Dx hy;exact⟨rfl,s2⟩
  . intro kk hkk;exact⟨[],by simp,by simp⟩
theorem bD9{ns:List SNode}{fs:List SFile}{room:Int}{M:SMach}{C:Nat->List UInt8}{E:Nat->Nat->List UInt8}(g:RightG ns)(h:MInv ns fs room M C E){a:Nat}{n:SNode}{p:SProc}(hn:ns[a]? = some n)(hp:M.ps[a]? = some p)(hov:p.ov=false)(hrd:p.rd=false)
 (Am:∀b∈p.out,b=[]) (Bc:p.got=[]):∃E',MInv ns fs room (M.setP a (C3 n M.fs p)) C E':=by
 have hpr:=h.proc a n p hn hp;have hch:=g.node n (mGt hn);have Ce:(n.ins.map (f9 (j4 fs [] ns))).length=n.ins.length:=qM _;have hi0:n.ins=[]:=qn.1 (by rw[<- Ce,<- hpr.glen,Bc];rfl);have Ls:n.kind≠5/\passes n=false:=by
  constructor
  . intro h5;have:=(A2 hch).2 (Or.inr (Or.inr h5));rw[hi0]at this
    cases this
  . cases hps:passes n with
    | false=>rfl
    | true=>exact absurd (by rw[hi0];rfl) (aQ1 hch hps)
 obtain⟨m,hw⟩:=hpr.wait hrd;obtain⟨_,y2,_⟩:=hw.hold Ls.1 Ls.2;have hII:n.ins.map (f9 (j4 fs [] ns))=p.got:=by rw[hi0,Bc];rfl
 obtain⟨z1,z2⟩:=bh0 (n:=n) (ds:=j0 n fs p.got) (ins:=p.got) (c:=fun j=>C (b7 ns a+j)) (e:=E a) (p:=p) (sunk:=M.sunk) fs hch rfl (by rw[<- hII];exact hpr.olen) (by rw[<- hII];exact hpr.rng) hov Am rfl (by rw[<- hII];exact hpr.cpre) hpr.snk (fun e=>absurd e Ls.1) (fun k d hd=>by rw[y2,hd];rfl);unfold SMach.setP;rw[show C3 n M.fs p=C3 n fs p by rw[h.efs]];refine⟨fun i=>if i=a then (fun k=>E a k++((j0 n fs p.got)[k]?.getD [])) else E i,?_⟩;refine ae8 g h hn hp (C3 n fs p) M.pipes M.sunk C _ rfl rfl (by rw[hII];exact z1) (fun _=>rfl) (fun q _=>⟨rfl,rfl⟩) ?_ ?_
 . intro m2 i2 k2 pw2 x2 y Bv;rw[hi0]at Bv;simp at Bv
 . intro kk hkk;have:=o5 hch fs p.got;exact⟨_,rfl,z2 kk (by omega)⟩
theorem aQ2{n:SNode}(h:passes n=true){a b:List UInt8}(ha:Whol a)(hp:a <+: b):through n a <+: through n b:=by obtain⟨r,rfl⟩:=hp;rw[ad3 h ha];exact List.prefix_append _ _
theorem bq8{INS:List (List UInt8)}{m:Nat}{d W:List UInt8}(hm:INS[m]? = some d)(hW:W <+: d):(INS.take m).flatten++W <+: INS.flatten:=by
 obtain⟨r,rfl⟩:=hW;have hml:m<INS.length:=(gSm hm).1;refine⟨r++(INS.drop (m+1)).flatten,?_⟩;conv=>rhs;rw[<- qk m INS,qh hml]
 rw[gEl hml]at hm;injection hm with hm;rw[hm];simp
theorem aK3{l:List SPipe}{q:Nat}{x y:SPipe}(hq:l[q]? = some y):(l.set q x)[q]? = some x:=by rw[xJ,qF rfl,qF (gSm hq).1]
theorem cc2{ns:List SNode}{fs:List SFile}{room:Int}{M:SMach}{C:Nat->List UInt8}{E:Nat->Nat->List UInt8}(g:RightG ns)(h:MInv ns fs room M C E){a:Nat}{n:SNode}{p:SProc}(hn:ns[a]? = some n)(hp:M.ps[a]? = some p)(hov:p.ov=false)(hrd:p.rd=false)
 (Am:∀b∈p.out,b=[]) (Bc:p.got≠[]) {q:Nat} (hq:q=b7 ns a+p.pos.toNat) (hem:(M.pipe q).b≠[]):
 ∃C' E',MInv ns fs room (I7 (M.setX q ⟨(M.pipe q).b.drop 8,(M.pipe q).room,(M.pipe q).closed,(M.pipe q).shut⟩) a n q (p.setGot (p.at++(M.pipe q).b.take 8))) C' E':=by
 have hpr:=h.proc a n p hn hp;have hch:=g.node n (mGt hn);have Ds:=o5 hch fs (n.ins.map (f9 (j4 fs [] ns)));have Ce:(n.ins.map (f9 (j4 fs [] ns))).length=n.ins.length:=qM _;have hgl:p.got.length=n.ins.length:=hpr.glen.trans Ce;have hg0:n.ins.length≠0:=by intro e;exact Bc (qn.1 (hgl.trans e))
 obtain⟨m,hw⟩:=hpr.wait hrd;have hmt:p.pos.toNat=m:=by rw[hw.pos];simp
 rw[hmt]at hq;subst hq;have hml:m<n.ins.length:=by rw[<- Ce];exact hw.lt (by omega)
 obtain⟨po,hpo⟩:∃po,n.ins[m]? = some po:=⟨_,gEl hml⟩;obtain⟨i,k,m',epo,hia,hm',hk⟩:=g.src hn hpo;subst epo;obtain⟨x,hx⟩:∃x,M.pipes[b7 ns a+m]? = some x:=⟨_,gEl (by rw[h.xlen];exact M1 hn hml)⟩;have hxp:M.pipe (b7 ns a+m)=x:=by unfold SMach.pipe;rw[hx];rfl
 rw[hxp]at hem ⊢;obtain⟨pw,hpw⟩:∃pw,M.ps[i]? = some pw:=⟨_,gEl (by rw[h.plen];exact (gSm hm').1)⟩;obtain⟨q1,q2⟩:=h.pipe a n m i k p pw x hn hpo hp hpw hx;have Av:=Q0 q2.good;have hsh:x.shut=false:=by
  cases hs:x.shut with
  | false=>rfl
  | true=>exact absurd (hrd.symm.trans (q2.shut hs)) (by simp)
 have hwp:=h.proc i m' pw hm' hpw;have hds:=ar5 g fs hm' hk;have Gf:=q2.flow hsh;have hcp:C (b7 ns a+m)++x.b.take 8 <+: f9 (j4 fs [] ns) ((i:Int),(k:Int)):=bq7 (hwp.pre k _ hds) Gf 8;have Gw:(n.ins.map (f9 (j4 fs [] ns)))[m]? = some (f9 (j4 fs [] ns) ((i:Int),(k:Int))):=by rw[qQ,hpo];rfl
 have hwh:∀b∈n.ins.map (f9 (j4 fs [] ns)),Whol b:=by
  intro b hb;obtain⟨j,hj⟩:=qb hb;rw[qQ]at hj
  cases hq:n.ins[j]? with
  | none=>rw[hq]at hj;cases hj
  | some po=>
   rw[hq]at hj
   injection hj with hj
   obtain⟨i2,k2,m2,e2,_,hm2,hk2⟩:=g.src hn hq
   subst e2
   rw[<- hj]
   exact aZ8 (g.node m2 (mGt hm2)) fs _ _ (mGt (ar5 g fs hm2 hk2))
 obtain⟨bite,Qo⟩:=qE (x.b.take 8);obtain⟨C1,hC1⟩:=qE (fun q=>if q=b7 ns a+m then C (b7 ns a+m)++bite else C q:Nat->List UInt8);have Iu:C1 (b7 ns a+m)=C (b7 ns a+m)++bite:=by rw[hC1];simp
 have Iw:∀j,j≠m->C1 (b7 ns a+j)=C (b7 ns a+j):=fun j hj=>by rw[hC1];simp only;rw[qA (by omega)]
 rw[<- Qo]at hcp ⊢;have Fe:∀(j:Nat)(d:List UInt8),(n.ins.map (f9 (j4 fs [] ns)))[j]? = some d->C1 (b7 ns a+j) <+: d:=by
  intro j d hd;by_cases e:j=m
  . subst e;rw[Gw]at hd;injection hd with hd;rw[Iu,<- hd];exact hcp
  . rw[Iw j e];exact hpr.cpre j d hd
 have Lt:p.at=p.got[m]?.getD []:=by unfold SProc.at;rw[hmt]
 have Uf:m<p.got.length:=by omega
 obtain⟨p1,hp1⟩:=qE (p.setGot (p.at++bite));rw[<- hp1];have Ph:p1.got=p.got.set m (p.at++bite):=by rw[hp1];unfold SProc.setGot;rw[hmt]
 have Bd:p1.pos=p.pos:=by rw[hp1];rfl
 have Ax:p1.out=p.out:=by rw[hp1];rfl
 have Df:p1.rd=false:=by rw[hp1];exact hrd
 have Bn:p1.ov=false:=by rw[hp1];exact hov
 have Hv:p1.at=p.at++bite:=by unfold SProc.at;rw[Bd,hmt,Ph,Q1 Uf,qF rfl,Lt]
 have Pi:∀j,j≠m->p1.got[j]?.getD []=p.got[j]?.getD []:=fun j hj=>by rw[Ph,Q1 Uf,qA hj]
 have Jv:p1.got[m]?.getD []=p.at++bite:=by rw[Ph,Q1 Uf,qF rfl]
 have Lu:p1.got.length=p.got.length:=by rw[Ph];simp
 have Bl:∀(X:List SPipe)(rd':Bool),X=M.pipes.set (b7 ns a+m) ⟨x.b.drop 8,x.room,x.closed,x.shut⟩->rd'=false ->
  ∀(m2 i2 k2:Nat)(pw2:SProc)(x2 y:SPipe),n.ins[m2]? = some ((i2:Int),(k2:Int))->M.ps[i2]? = some pw2->M.pipes[b7 ns a+m2]? = some y->X[b7 ns a+m2]? = some x2 ->
  x2.room=y.room/\PipeOk (f9 (j4 fs [] ns) ((i2:Int),(k2:Int))) (E i2 k2) (C1 (b7 ns a+m2)) x2 (pw2.out[k2]?.getD []) pw2.ov rd':=by
  intro X rd' hX Dy m2 i2 k2 pw2 x2 y Bv Dx hy hx2
  subst hX Dy
  rcases aa9 hx2 with⟨e,rfl⟩|⟨e,hx3⟩
  .
   have e':m2=m:=by omega
   subst e'
   rw[hpo]at Bv
   simp only[qW,zT,Int.natCast_inj]at Bv
   obtain⟨rfl,rfl⟩:=Bv
   rw[hpw]at Dx
   injection Dx with Dx
   subst Dx
   rw[hx]at hy
   injection hy with hy
   subst hy
   refine⟨rfl,?_,q2.closed,fun h2=>absurd (hsh.symm.trans h2) (by simp),fun _=>?_,fun _ h2=>absurd h2 (by simp)⟩
   . refine I6 Av.1 Av.2.1 ?_ (fun h2=>absurd (hsh.symm.trans h2) (by simp))
     show ((x.b.drop 8).length:Int)<=plim x.room
     have:=Av.2.2.1
     rw[qo]
     omega
   . rw[Iu,Gf,Qo]
     have:x.b.take 8++x.b.drop 8=x.b:=qk 8 x.b
     show C (b7 ns a+m2)++x.b++pw.out[k]?.getD []=C (b7 ns a+m2)++x.b.take 8++x.b.drop 8++pw.out[k]?.getD []
     rw[qp (C (b7 ns a+m2)) (x.b.take 8),this]
  .
   have e':m2≠m:=by omega
   rw[hy]at hx3
   injection hx3 with hx3
   subst hx3
   obtain⟨s1,s2⟩:=h.pipe a n m2 i2 k2 p pw2 y hn Bv hp Dx hy
   rw[Iw m2 e',<- hrd]
   exact⟨rfl,s2⟩
 have Hw:∀(z:SPipe)(q:Nat),(∀m2,m2<n.ins.length->q≠b7 ns a+m2)->(M.pipes.set (b7 ns a+m) z)[q]? = M.pipes[q]? /\ C1 q=C q:=by
  intro z q hq;have:=hq m hml;refine⟨?_,?_⟩
  . rw[xJ,qA (fun e=>this e.symm)]
  . rw[hC1];simp only;rw[qA this]
 have Ix:∀(j:Nat)(d:List UInt8),j<m->(n.ins.map (f9 (j4 fs [] ns)))[j]? = some d->C1 (b7 ns a+j)=d:=fun j d hj hd=>by rw[Iw j (by omega)];exact hw.past j d hj hd
 have Gx:∀j,m<j->j<(n.ins.map (f9 (j4 fs [] ns))).length->C1 (b7 ns a+j)=[]:=fun j hj hjl=>by rw[Iw j (by omega)];exact hw.next j hj hjl
 have Xp:∀j,j<(n.ins.map (f9 (j4 fs [] ns))).length->(p1.got[j]?.getD []).length<=(C1 (b7 ns a+j)).length:=by
  intro j hj;by_cases e:j=m
  . subst e;have:=hpr.small j hj;rw[Jv,Iu,Lt,qG,qG];exact Nat.add_le_add_right this _
  . rw[Pi j e,Iw j e];exact hpr.small j hj
 unfold I7;by_cases h5:n.kind=5
 .
  -- a sink
  rw[qF h5];have h1:=(A2 hch).2 (Or.inr (Or.inr h5));have hm0:m=0:=by omega
  subst hm0;have hat0:p.at=[]:=by rw[Lt];exact hw.sink h5
  refine⟨C1,fun i=>if i=a then E a else E i,?_⟩;refine ae8 g h hn hp (p1.setGot []) (M.pipes.set (b7 ns a+0) _) (M.sunk++p1.at) C1 (E a) (by simp) (by rw[hov];exact Bn) ?_ (fun e=>absurd h5 e) (Hw _) (Bl _ _ rfl Df) (fun kk hkk=>⟨[],by simp,by unfold SProc.setGot;simp[Ax]⟩);have hsg:(p1.setGot []).got=p1.got.set 0 []:=by unfold SProc.setGot;rw[Bd,hmt]
  have hsz:∀j:Nat,(p1.setGot []).got[j]?.getD []=[]:=by
   intro j;rw[hsg];by_cases e:j=0
   . subst e;rw[Q1 (by omega),qF rfl]
   . rw[qm (by rw[zR];omega)];rfl
  refine⟨by rw[hsg,zR,Lu];exact hpr.glen,by show p1.out.length=_;rw[Ax];exact hpr.olen,by show 0<=p1.pos/\p1.pos<=_;rw[Bd];exact hpr.rng,fun e=>absurd (Bn.symm.trans e) (by simp),fun e=>absurd (Bn.symm.trans e) (by simp),hpr.pre,Fe,fun e=>absurd (Df.symm.trans e) (by simp),fun j hj=>by rw[hsz j];simp,by show ∀(k:Nat)(d:List UInt8),_->(p1.out[k]?.getD []).length<=_;rw[Ax];exact hpr.osmall,fun _=>?_,fun _ e=>absurd (Df.symm.trans e) (by simp),fun _=>⟨0,?_,fun _=>by omega,fun j d hj=>absurd hj (by omega),Gx,fun _=>hsz 0,fun e=>absurd h5 e,fun e=>absurd h5 e⟩⟩
  . rw[Hv,hat0,Iu,hpr.snk h5];rfl
  . show p1.pos=_;rw[Bd];exact hw.pos
 .
  rw[qA h5]
  cases hps:passes n with
  | true=>
   obtain⟨w1,W,w2,w3,w4,w5⟩:=hw.pass h5 hps
   rw[<- Lt]at w2 w3
   have hno1:nouts n=1:=aH3 hps
   have hdsl:(j0 n fs (n.ins.map (f9 (j4 fs [] ns)))).length=1:=by omega
   have hD:=ap2 hps hch fs (n.ins.map (f9 (j4 fs [] ns))) Ce hwh
   by_cases h10:p1.at.contains 10=true
   .
    rw[qF (by rw[h10];rfl)]
    obtain⟨X1,hX1⟩:=qE (p1.at.take (l8 p1.at))
    obtain⟨X2,hX2⟩:=qE (p1.at.drop (l8 p1.at))
    have hX12:X1++X2=p.at++bite:=by rw[hX1,hX2,qk,Hv]
    have hXw:Whol X1:=by rw[hX1];exact bq5 _
    have hXn:(10:UInt8)∉X2:=by rw[hX2];exact aQ0 _
    rw[<- hX1,<- hX2]
    have hfw:Whol ((List.take m (n.ins.map (f9 (j4 fs [] ns)))).flatten++W):=(aE0 _ (fun b hb=>hwh b (xo hb))).append w4
    have hE0:E a 0++through n X1=through n ((List.take m (n.ins.map (f9 (j4 fs [] ns)))).flatten++(W++X1)):=by
     rw[w5,<- ad3 hps hfw,qp]
    have hCW:C1 (b7 ns a+m)=(W++X1)++X2:=by rw[Iu,show C (b7 ns a+m)=W++p.at from w3,qp,qp,hX12]
    have Qp:through n ((List.take m (n.ins.map (f9 (j4 fs [] ns)))).flatten++(W++X1)) <+: through n (n.ins.map (f9 (j4 fs [] ns))).flatten:=by
     refine aQ2 hps ((aE0 _ (fun b hb=>hwh b (xo hb))).append (w4.append hXw)) (bq8 Gw ?_)
     refine List.IsPrefix.trans ⟨X2,rfl⟩ ?_
     rw[<- hCW]
     exact Fe m _ Gw
    have Ug:p1.out.length=1:=by rw[Ax,hpr.olen,hdsl]
    have ho0:p1.out[0]?.getD []=[]:=by
     rw[Ax]
     cases hk2:p.out[0]? with
     | none=>rfl
     | some b=>exact Am b (mGt hk2)
    rw[ho0,xn]
    refine⟨C1,fun i=>if i=a then (fun kk=>if kk=0 then E a 0++through n X1 else E a kk) else E i,?_⟩
    unfold SMach.setX SMach.setP
    obtain⟨p2,hp2⟩:=qE ((p1.setOut 0 (through n X1)).setGot X2)
    have Uh:p2.got=p1.got.set m X2:=by rw[hp2];show p1.got.set p1.pos.toNat X2=_;rw[Bd,hmt]
    have Ui:p2.got[m]?.getD []=X2:=by rw[Uh,Q1 (by omega),qF rfl]
    have Xq:∀j,j≠m->p2.got[j]?.getD []=p.got[j]?.getD []:=fun j hj=>by rw[Uh,Q1 (by omega),qA hj,Pi j hj]
    have Iy:p2.out=p1.out.set 0 (through n X1):=by rw[hp2];rfl
    have Lx:p2.pos=p.pos:=by rw[hp2,<- Bd];rfl
    have Qq:p2.rd=false:=by rw[hp2,<- Df];rfl
    have Ly:p2.ov=false:=by rw[hp2,<- Bn];rfl
    rw[<- hp2]
    refine ae8 g h hn hp p2 (M.pipes.set (b7 ns a+m) _) M.sunk C1 _ (by simp) (by rw[hov];exact Ly) ?_ (fun _=>rfl) (Hw _) (Bl _ _ rfl Qq) ?_
    .
     refine⟨by rw[Uh,zR,Lu];exact hpr.glen,by rw[Iy,zR,Ax];exact hpr.olen,by rw[Lx];exact hpr.rng,fun e=>absurd (Ly.symm.trans e) (by simp),fun e=>absurd (Ly.symm.trans e) (by simp),?_,Fe,fun e=>absurd (Qq.symm.trans e) (by simp),?_,?_,fun e=>absurd e h5,fun e=>absurd e h5,fun _=>⟨m,by rw[Lx];exact hw.pos,fun _=>by omega,Ix,Gx,fun e=>absurd e h5,fun _ _=>⟨fun j hj=>by rw[Xq j hj];exact w1 j hj,W++X1,by rw[Ui];exact hXn,by rw[Ui];exact hCW,w4.append hXw,?_⟩,fun _ e=>absurd (hps.symm.trans e) (by simp)⟩⟩
     .
      intro kk d hd
      rw[hD]at hd
      have hk0:kk=0:=by
       have:=(gSm hd).1
       simp at this
       exact this
      subst hk0
      simp only[xM,qW]at hd
      simp only[if_true]
      rw[hE0,<- hd]
      exact Qp
     . intro j hj
       by_cases e:j=m
       . subst e
         rw[Ui,hCW,qG]
         omega
       . rw[Xq j e,Iw j e];exact hpr.small j hj
     .
      intro kk d hd
      rw[hD]at hd
      have hk0:kk=0:=by
       have:=(gSm hd).1
       simp at this
       exact this
      subst hk0
      simp only[xM,qW]at hd
      rw[Iy,Q1 (by omega),qF rfl]
      have:=Qp.length_le
      rw[<- hE0,qG,hd]at this
      omega
     . simp only[if_true];exact hE0
    . intro kk hkk
      have hk0:kk=0:=by omega
      subst hk0
      refine⟨through n X1,by simp,?_⟩
      rw[Iy,Q1 (by omega),qF rfl,<- Ax,ho0]
      rfl
   .
    rw[qA (by simp only[zA,not_and];exact fun _=>h10),qA (by
     rintro⟨k3,k9,_⟩
     rcases aa4 hps with⟨k4,_⟩|⟨_,k5⟩
     . omega
     . have:=qc k5
       omega)]
    have Xr:(10:UInt8)∉p.at++bite:=by rw[<- Hv];simpa using h10
    refine⟨C1,fun i=>if i=a then E a else E i,?_⟩
    unfold SMach.setX SMach.setP
    refine ae8 g h hn hp p1 (M.pipes.set (b7 ns a+m) _) M.sunk C1 (E a) (by simp) (by rw[hov];exact Bn) ?_ (fun _=>rfl) (Hw _) (Bl _ _ rfl Df) (fun kk hkk=>⟨[],by simp,by simp[Ax]⟩)
    refine⟨Lu.trans hpr.glen,by rw[Ax];exact hpr.olen,by rw[Bd];exact hpr.rng,fun e=>absurd (Bn.symm.trans e) (by simp),fun e=>absurd (Bn.symm.trans e) (by simp),hpr.pre,Fe,fun e=>absurd (Df.symm.trans e) (by simp),Xp,by rw[Ax];exact hpr.osmall,fun e=>absurd e h5,fun e=>absurd e h5,fun _=>⟨m,by rw[Bd];exact hw.pos,fun _=>by omega,Ix,Gx,fun e=>absurd e h5,fun _ _=>⟨fun j hj=>by rw[Pi j hj];exact w1 j hj,W,by rw[Jv];exact Xr,by rw[Jv];show C1 (b7 ns a+m)=_;rw[Iu,show C (b7 ns a+m)=W++p.at from w3,qp],w4,w5⟩,fun _ e=>absurd (hps.symm.trans e) (by simp)⟩⟩
  | false=>
   obtain⟨y1,y2,y3⟩:=hw.hold h5 hps
   rw[qA (by simp)]
   have hgc:∀j,j<(n.ins.map (f9 (j4 fs [] ns))).length->p1.got[j]?.getD []=C1 (b7 ns a+j):=by
    intro j hj
    by_cases e:j=m
    . subst e
      rw[Jv,Iu,Lt,y1 j hj]
    . rw[Pi j e,Iw j e];exact y1 j hj
   by_cases hhd:n.kind=3/\n.c.kind=9/\n.c.n<=(p1.at.count 10:Int)
   .
    rw[qF hhd]
    obtain⟨k3,k9,kN⟩:=hhd
    have h1:=(A2 hch).2 (Or.inr (Or.inl k3))
    have hm0:m=0:=by omega
    subst hm0
    have Qr:p1.got=[p1.at]:=by
     have hl1:p1.got.length=1:=by omega
     match hpg:p1.got,hl1 with
     | [b],_=>
      have:=Jv
      rw[hpg]at this
      simp only[xM,xG]at this
      rw[this,Hv]
    have Xs:n.ins.map (f9 (j4 fs [] ns))=[f9 (j4 fs [] ns) ((i:Int),(k:Int))]:=by
     have hl1:(n.ins.map (f9 (j4 fs [] ns))).length=1:=by omega
     match hpg:n.ins.map (f9 (j4 fs [] ns)),hl1 with
     | [b],_=>
      have:=Gw
      rw[hpg]at this
      simp only[xM,qW]at this
      rw[this]
    have hat1:p1.at=C1 (b7 ns a+0):=by
     have:=hgc 0 (by omega)
     rw[Qr]at this
     simpa using this
    have hmm:j0 n fs p1.got=j0 n fs (n.ins.map (f9 (j4 fs [] ns))):=by
     rw[Qr,Xs]
     unfold j0
     rw[qA (by omega),qA (by omega),qF k3,qA (by omega),qA (by omega),qF k3]
     simp only[zO,xG]
     rw[ax1 _ k9,ax1 _ k9,bR4 (hat1 ▸ Fe 0 _ Gw) n.c.n.toNat (by omega)]
    obtain⟨z1,z2⟩:=bh0 (n:=n) (ds:=j0 n fs (n.ins.map (f9 (j4 fs [] ns)))) (ins:=n.ins.map (f9 (j4 fs [] ns))) (c:=fun j=>C1 (b7 ns a+j)) (e:=E a) (p:=p1) (sunk:=M.sunk) fs hch (Lu.trans hpr.glen) (by rw[Ax];exact hpr.olen) (by rw[Bd];exact hpr.rng) Bn (by rw[Ax];exact Am) (by rw[hmm]) Fe (fun e=>absurd e h5) (fun e=>absurd e h5) (fun kk d hd=>by rw[y2 kk,hmm,hd];rfl)
    refine⟨C1,fun i=>if i=a then (fun k=>E a k++((j0 n fs p1.got)[k]?.getD [])) else E i,?_⟩
    unfold SMach.setX SMach.setP
    simp only[ze]
    rw[show C3 n M.fs p1=C3 n fs p1 by rw[h.efs]]
    have hpx:(⟨M.ns,M.fs,M.pipes.set (b7 ns a+0) ⟨x.b.drop 8,x.room,x.closed,x.shut⟩,M.ps,M.sunk⟩:SMach).pipe (b7 ns a+0)=⟨x.b.drop 8,x.room,x.closed,x.shut⟩:=by
     unfold SMach.pipe
     rw[aK3 hx]
     rfl
    rw[hpx]
    refine ae8 g h hn hp (C3 n fs p1) (M.pipes.set (b7 ns a+0) _) M.sunk C1 _ (by simp) (by rw[hov];exact Bn) z1 (fun _=>rfl) (Hw _) ?_ ?_
    .
     intro m2 i2 k2 pw2 x2 y Bv Dx hy hx2
     have hm2:m2=0:=by
      have:=(gSm Bv).1
      omega
     subst hm2
     rw[aK3 hx]at hx2
     injection hx2 with hx2
     rw[hx]at hy
     injection hy with hy
     subst hx2 hy
     rw[hpo]at Bv
     simp only[qW,zT,Int.natCast_inj]at Bv
     obtain⟨rfl,rfl⟩:=Bv
     rw[hpw]at Dx
     injection Dx with Dx
     subst Dx
     refine⟨rfl,I6 Av.1 Av.2.1 ?_ (fun _=>rfl),q2.closed,fun _=>rfl,fun e=>absurd e (by simp),fun e=>absurd e (by simp)⟩
     show ((0:Nat):Int)<=plim x.room
     have:=Av.2.2.1
     omega
    . intro kk hkk
      exact⟨_,rfl,by rw[<- Ax];exact z2 kk (by omega)⟩
   .
    rw[qA hhd]
    refine⟨C1,fun i=>if i=a then E a else E i,?_⟩
    unfold SMach.setX SMach.setP
    refine ae8 g h hn hp p1 (M.pipes.set (b7 ns a+m) _) M.sunk C1 (E a) (by simp) (by rw[hov];exact Bn) ?_ (fun _=>rfl) (Hw _) (Bl _ _ rfl Df) (fun kk hkk=>⟨[],by simp,by simp[Ax]⟩)
    refine⟨Lu.trans hpr.glen,by rw[Ax];exact hpr.olen,by rw[Bd];exact hpr.rng,fun e=>absurd (Bn.symm.trans e) (by simp),fun e=>absurd (Bn.symm.trans e) (by simp),hpr.pre,Fe,fun e=>absurd (Df.symm.trans e) (by simp),Xp,by rw[Ax];exact hpr.osmall,fun e=>absurd e h5,fun e=>absurd e h5,fun _=>⟨m,by rw[Bd];exact hw.pos,fun _=>by omega,Ix,Gx,fun e=>absurd e h5,fun _ e=>absurd (hps.symm.trans e) (by simp),fun _ _=>⟨hgc,y2,fun k3 k9=>?_⟩⟩⟩
    have h1:=(A2 hch).2 (Or.inr (Or.inl k3))
    have hm0:m=0:=by omega
    subst hm0
    have e1:=hgc 0 (by omega)
    rw[Jv,<- Hv]at e1
    rw[<- e1]
    have:¬n.c.n<=(p1.at.count 10:Int):=fun e=>hhd ⟨k3,k9,e⟩
    omega
theorem cc3{ns:List SNode}{fs:List SFile}{room:Int}{M:SMach}{C:Nat->List UInt8}{E:Nat->Nat->List UInt8}(g:RightG ns)(h:MInv ns fs room M C E)(a:Nat):∃C' E',MInv ns fs room (K7 M a).1 C' E':=by
 unfold K7
 cases hn:M.ns[a]? with
 | none=>exact⟨C,E,h⟩
 | some n=>
  cases hp:M.ps[a]? with
  | none=>exact⟨C,E,h⟩
  | some p=>
   rw[h.ens]at hn
   simp only
   unfold aP1
   by_cases hov:p.ov=true
   . rw[qF hov];exact⟨C,E,h⟩
   .
    rw[qA hov]
    have Dz:p.ov=false:=by simpa using hov
    by_cases Cf:p.out.any (fun b=>!b.isEmpty)=true
    .
     rw[qF Cf]
     have key:∀(r:List (List UInt8))(k:Nat),p.out.drop k=r->∃C' E',MInv ns fs room (I5 M a p k r).1 C' E':=by
      intro r
      induction r with
      | nil=>intro k _;exact⟨C,E,h⟩
      | cons b r ih=>
       intro k hk
       have hb:p.out[k]? = some b:=by
        have:(p.out.drop k)[0]? = some b:=by rw[hk];rfl
        rw[xd]at this
        exact this
       unfold I5
       split
       . exact⟨C,E,bR5 g h hn hp Dz hb⟩
       . refine ih (k+1) ?_
         rw[<- List.drop_drop,hk]
         rfl
     exact key p.out 0 rfl
    .
     rw[qA Cf]
     have Am:∀b∈p.out,b=[]:=by
      intro b hb
      have h1:¬(∃x∈p.out,(!x.isEmpty)=true):=fun hx=>Cf (List.any_eq_true.2 hx)
      cases hbe:b with
      | nil=>rfl
      | cons c r=>exact absurd ⟨b,hb,by rw[hbe];rfl⟩ h1
     by_cases hrd:p.rd=true
     . rw[qF hrd]
       exact⟨C,E,cl7 g h hn hp Dz hrd Am⟩
     .
      rw[qA hrd]
      have Dy:p.rd=false:=by simpa using hrd
      by_cases Bc:p.got.isEmpty=true
      . rw[qF Bc]
        obtain⟨E',h'⟩:=bD9 g h hn hp Dz Dy Am (xC.1 Bc)
        exact⟨C,E',h'⟩
      .
       rw[qA Bc]
       have Qs:p.got≠[]:=fun e=>Bc (xC.2 e)
       unfold aG7
       rw[h.ens]
       by_cases hc:((M.pipe (b7 ns a+p.pos.toNat)).closed && (M.pipe (b7 ns a+p.pos.toNat)).b.isEmpty)=true
       . rw[qF hc]
         simp only[zA,xC]at hc
         obtain⟨E',h'⟩:=cc1 g h hn hp Dz Dy Am Qs hc.1 hc.2
         refine⟨C,E',?_⟩
         split
         . rename_i e;rw[qF e]at h';exact h'
         . rename_i e;rw[qA e]at h';exact h'
       . rw[qA hc]
         by_cases he:(M.pipe (b7 ns a+p.pos.toNat)).b.isEmpty=true
         . rw[qF he];exact⟨C,E,h⟩
         . rw[qA he]
           exact cc2 g h hn hp Dz Dy Am Qs rfl (fun e=>he (xC.2 e))
theorem V4(m j:Nat):((List.replicate m ([]:List UInt8))[j]?.getD [])=[]:=by rw[xw];split <;> rfl
theorem cc4{c:Cmd}(h:chk c=0)(h9:c.kind=9):1<=c.n:=by
 unfold chk at h;have hu:uses c.kind=2:=by rw[h9];decide
 rw[qA (by omega)]at h;split at h
 . cases h
 .
  split at h
  . cases h
  . rename_i h1;have:¬(c.n<1\/1000<c.n):=fun e=>h1 ⟨hu,e⟩;omega
theorem bq9{n:SNode}(h:j9 n=0)(h3:n.kind=3):chk n.c=0:=by
 rcases H7 (E8 h).1 with⟨h4 | h4,_⟩|⟨h4,_⟩|⟨_,h4⟩|⟨h4,_⟩
 . omega
 . omega
 . omega
 . exact h4
 . omega
theorem bR6{ns:List SNode}{fs:List SFile}{room:Int}(g:RightG ns)(h1:1<=room)(h2:room<=1000):MInv ns fs room (L9 ns fs room) (fun _=>[]) (fun _ _=>[]):=by
 refine⟨rfl,rfl,by simp[L9],by simp[L9],?_,?_⟩
 .
  intro i n p hn hp;have hp':p=L8 n:=by unfold L9 at hp;rw[qQ,hn]at hp;injection hp with hp;exact hp.symm
  subst hp';have hch:=g.node n (mGt hn);have Ds:=o5 hch fs (n.ins.map (f9 (j4 fs [] ns)))
  refine⟨by simp[L8],by unfold L8;simp only[List.length_replicate];omega,⟨by simp[L8],by unfold L8;simp only;omega⟩,fun e=>absurd e (by simp[L8]),fun e=>absurd e (by simp[L8]),fun k d _=>List.nil_prefix,fun j d _=>List.nil_prefix,fun e=>absurd e (by simp[L8]),fun j _=>by unfold L8;simp only;rw[V4];simp,fun k d _=>by unfold L8;simp only;rw[V4];simp,fun _=>rfl,fun _ e=>absurd e (by simp[L8]),fun _=>⟨0,rfl,fun e=>by omega,fun j d hj=>absurd hj (by omega),fun j _ _=>rfl,fun _=>by unfold L8;simp only;rw[V4],fun h5 hps=>⟨fun j _=>by unfold L8;simp only;rw[V4],[],by unfold L8;simp only;rw[V4];simp,by unfold L8;simp only;rw[V4];rfl,ai6,?_⟩,fun h5 hps=>⟨fun j _=>by unfold L8;simp only;rw[V4],fun _=>rfl,fun h3 h9=>?_⟩⟩⟩
  . simp only[List.take_zero,List.flatten_nil,xH];exact (aH2 hps).symm
  . have:=cc4 (bq9 hch h3) h9;simp;omega
 .
  intro r n j i k pr pw x hn hj hr hw hx;have hjl:j<n.ins.length:=(gSm hj).1;obtain⟨i2,k2,m,e,hir,hm,hk⟩:=g.src hn hj;simp only[zT,Int.natCast_inj]at e;obtain⟨rfl,rfl⟩:=e;unfold L9 at hr hw hx;rw[qQ,hn]at hr;rw[qQ,hm]at hw;rw[qQ,ai5 hn hjl,hj]at hx;injection hr with hr;injection hw with hw;injection hx with hx;subst hr hw hx;refine⟨rfl,?_,rfl,fun e=>absurd e (by simp),fun _=>?_,fun _ e=>absurd e (by simp[L8])⟩
  . have:0<=roomOf ns room ((i:Int),(k:Int))/\roomOf ns room ((i:Int),(k:Int))<=1000:=by unfold roomOf;split <;> omega
    refine I6 this.1 this.2 ?_ (fun _=>rfl);show ((0:Nat):Int)<=plim (roomOf ns room ((i:Int),(k:Int)));unfold plim;split <;> omega
  . unfold L8;simp only;rw[V4];rfl
theorem RightG.last{ns:List SNode}(g:RightG ns):∃n p,ns[ns.length-1]? = some n/\n.kind=5/\n.ins=[p]:=by
 have:=g.pos;obtain⟨n,hn⟩:∃n,ns[ns.length-1]? = some n:=⟨_,gEl (by omega)⟩;have h5:=(g.sink _ n hn).2 (by omega);have h1:=(A2 (g.node n (mGt hn))).2 (Or.inr (Or.inr h5))
 match hi:n.ins,h1 with
 | [p],_=>exact⟨n,p,hn,h5,hi⟩
theorem br0{ns:List SNode}{fs:List SFile}{room:Int}{M:SMach}{C:Nat->List UInt8}{E:Nat->Nat->List UInt8}(g:RightG ns)(h:MInv ns fs room M C E):M.sunk <+: sunk ns fs/\(overS M=true->M.sunk=sunk ns fs):=by
 obtain⟨n,po,hn,h5,hi⟩:=g.last;obtain⟨p,hp⟩:∃p,M.ps[ns.length-1]? = some p:=⟨_,gEl (by rw[h.plen];have:=g.pos;omega)⟩;have hpr:=h.proc _ n p hn hp;rw[aW6 hn,hi];simp only[zO,xG];have hin:(n.ins.map (f9 (j4 fs [] ns)))[0]? = some (f9 (j4 fs [] ns) po):=by rw[hi];rfl
 rw[hpr.snk h5];refine⟨hpr.cpre 0 _ hin,fun ho=>hpr.snk2 h5 (hpr.ovrd ?_) _ hin⟩;have:=zS.1 ho p (mGt hp);exact this
def Z5(ns:List SNode)(fs:List SFile):Prop:=∀(i k:Nat),(f9 (j4 fs [] ns) ((i:Int),(k:Int))).length<=40000
theorem at1{l:List Int}(h:∀x∈l,x=0):K5 l=0:=by
 unfold K5;have:l.find? (fun x=>x != 0)=none:=by rw[zq];intro x hx;simp[h x hx]
 rw[this];rfl
theorem ag6:∀(ns:List SNode)(ps:List SProc),(∀(i:Nat)(n:SNode)(p:SProc),ns[i]? = some n->ps[i]? = some p->E1 n p=0)->G0 ns ps=0
 | [],_,_=>by simp[G0]
 | n::ns,[],_=>by simp[G0]
 | n::ns,p::ps,h=>by
  unfold G0
  rw[qA (by simp[h 0 n p rfl rfl])]
  exact ag6 ns ps (fun i n' p' hn hp=>h (i+1) n' p' (by simpa using hn) (by simpa using hp))
theorem at6{l:List (List UInt8)}(h:∀j:Nat,(l[j]?.getD []).length<=40000):V7 l=false:=by unfold V7;rw[List.any_eq_false];intro b hb;obtain⟨j,hj⟩:=qb hb;have:=h j;rw[hj]at this;simp at this ⊢;omega
theorem cc5{ns:List SNode}{fs:List SFile}{room:Int}{M:SMach}{C:Nat->List UInt8}{E:Nat->Nat->List UInt8}(hg:gchk ns=0)(hf:fchk fs=0)(g:RightG ns)(hb:Z5 ns fs)(h:MInv ns fs room M C E):mchk M=0:=by
 have Lq:∀(i:Nat)(n:SNode),ns[i]? = some n->∀(j:Nat)(d:List UInt8),(n.ins.map (f9 (j4 fs [] ns)))[j]? = some d->d.length<=40000:=by
  intro i n hn j d hd;rw[qQ]at hd
  cases hq:n.ins[j]? with
  | none=>rw[hq]at hd;cases hd
  | some po=>
   rw[hq]at hd
   injection hd with hd
   obtain⟨i2,k2,m2,e2,_,_,_⟩:=g.src hn hq
   subst e2
   rw[<- hd]
   exact hb i2 k2
 unfold mchk;rw[h.ens,h.efs,qA (by simp[hg]),qA (by simp[hf]),qA (by rw[h.plen,h.xlen];simp),at1,qA (by simp),ag6,qA (by simp),qA]
 . have h1:=(br0 g h).1.length_le;obtain⟨n,po,hn,h5,hi⟩:=g.last;rw[aW6 hn,hi]at h1;have:=Lq _ n hn 0 (f9 (j4 fs [] ns) po) (by rw[hi];rfl);simp only[zO,xG]at h1;omega
 .
  intro i n p hn hp;have hpr:=h.proc i n p hn hp;have hch:=g.node n (mGt hn);have Ds:=o5 hch fs (n.ins.map (f9 (j4 fs [] ns)));have Ce:(n.ins.map (f9 (j4 fs [] ns))).length=n.ins.length:=qM _;have hgl:=hpr.glen;have hol:=hpr.olen;have hr:=hpr.rng;unfold E1;rw[qA (by omega),qA,qA]
  .
   rw[at6,at6]
   . simp
   . intro j;by_cases hj:j<p.out.length
     . have:=hpr.osmall j _ (gEl (by omega));have hd:=ar5 g fs hn (k:=j) (by omega);have hbk:=hb i j;rw[gEl (by omega:j<(j0 n fs (n.ins.map (f9 (j4 fs [] ns)))).length)]at hd;injection hd with hd;rw[hd]at this;omega
     . rw[qm (by omega)];simp
   . intro j;by_cases hj:j<p.got.length
     . have h1:=hpr.small j (by omega);have h2:=(hpr.cpre j _ (gEl (by omega))).length_le;have h3:=Lq i n hn j _ (gEl (by omega));omega
     . rw[qm (by omega)];simp
  .
   rintro (e | e | ⟨e1,e2⟩|⟨e1,e2,e3⟩)
   . omega
   . omega
   . exact absurd ((hpr.ovrd e1).symm.trans e2) (by simp)
   . obtain⟨m,hw⟩:=hpr.wait e1;have:=hw.lt (by omega);have:=hw.pos;omega
 . intro x hx;obtain⟨y,hy,rfl⟩:=qg.1 hx;obtain⟨q,hq⟩:=qb hy;have hql:q<(j3 ns).length:=by rw[<- h.xlen];exact (gSm hq).1
   obtain⟨r,j,n,hn,hj,rfl⟩:=aw4 ns q hql;obtain⟨po,hpo⟩:∃po,n.ins[j]? = some po:=⟨_,gEl hj⟩;obtain⟨i,k,m,e,_,hm,_⟩:=g.src hn hpo;subst e;obtain⟨pr,hr⟩:∃pr,M.ps[r]? = some pr:=⟨_,gEl (by rw[h.plen];exact (gSm hn).1)⟩;obtain⟨pw,hw⟩:∃pw,M.ps[i]? = some pw:=⟨_,gEl (by rw[h.plen];exact (gSm hm).1)⟩;exact (h.pipe r n j i k pr pw y hn hpo hr hw hq).2.good
theorem aH4{M:SMach}{a:Nat}{n:SNode}{p:SProc}(hn:M.ns[a]? = some n)(hp:M.ps[a]? = some p)(h:(K7 M a).2≠0)(hov:p.ov=false):
 (∃(k:Nat)(b:List UInt8),p.out[k]? = some b/\b≠[]/\¬0<(pwrite (M.pipe (D2 M.ns ((a:Int),(k:Int)))) b).2.1) \/
 ((∀b∈p.out,b=[])/\p.rd=false/\p.got≠[]/\(M.pipe (b7 M.ns a+p.pos.toNat)).b=[]/\(M.pipe (b7 M.ns a+p.pos.toNat)).closed=false):=by
 unfold K7 at h;rw[hn,hp]at h;simp only at h;unfold aP1 at h;rw[qA (by simp[hov])]at h;by_cases Cf:p.out.any (fun b=>!b.isEmpty)=true
 .
  rw[qF Cf]at h;obtain⟨b,hb,hbe⟩:=List.any_eq_true.1 Cf;obtain⟨k,hk⟩:=qb hb;left;refine⟨k,b,hk,fun e=>by simp[e]at hbe,?_⟩;have key:∀(r:List (List UInt8))(s:Nat),p.out.drop s=r->(I5 M a p s r).2≠0->∀(j:Nat)(b:List UInt8),s<=j->p.out[j]? = some b->¬0<(pwrite (M.pipe (D2 M.ns ((a:Int),(j:Int)))) b).2.1:=by
   intro r
   induction r with
   | nil=>
    intro s hs _ j b hj hb
    have:p.out.length<=s:=by
     have:=congrArg List.length hs
     simp at this
     omega
    rw[qm (by omega)]at hb
    cases hb
   | cons c r ih=>
    intro s hs hw j b hj hb
    have hc:p.out[s]? = some c:=by
     have:(p.out.drop s)[0]? = some c:=by rw[hs];rfl
     rw[xd]at this
     exact this
    unfold I5 at hw
    by_cases Fp:0<(pwrite (M.pipe (D2 M.ns ((a:Int),(s:Int)))) c).2.1
    . rw[qF Fp]at hw
      exact absurd rfl hw
    .
     rw[qA Fp]at hw
     by_cases e:j=s
     . subst e
       rw[hc]at hb
       injection hb with hb
       subst hb
       exact Fp
     . exact ih (s+1) (by rw[<- List.drop_drop,hs];rfl) hw j b (by omega) hb
  exact key p.out 0 rfl h k b (by omega) hk
 .
  rw[qA Cf]at h;right;have Am:∀b∈p.out,b=[]:=by
   intro b hb;have h1:¬(∃x∈p.out,(!x.isEmpty)=true):=fun hx=>Cf (List.any_eq_true.2 hx)
   cases hbe:b with
   | nil=>rfl
   | cons c r=>exact absurd ⟨b,hb,by rw[hbe];rfl⟩ h1
  by_cases hrd:p.rd=true
  . rw[qF hrd]at h;exact absurd rfl h
  .
   rw[qA hrd]at h;by_cases Bc:p.got.isEmpty=true
   . rw[qF Bc]at h;exact absurd rfl h
   .
    rw[qA Bc]at h;unfold aG7 at h;by_cases hc:((M.pipe (b7 M.ns a+p.pos.toNat)).closed && (M.pipe (b7 M.ns a+p.pos.toNat)).b.isEmpty)=true
    . rw[qF hc]at h;exfalso;split at h <;> exact h rfl
    . rw[qA hc]at h;by_cases he:(M.pipe (b7 M.ns a+p.pos.toNat)).b.isEmpty=true
      . refine⟨Am,by simpa using hrd,fun e=>Bc (xC.2 e),xC.1 he,?_⟩;rw[he,Bool.and_true]at hc;simpa using hc
      . rw[qA he]at h;exact absurd rfl h
theorem bR7{ns:List SNode}{fs:List SFile}{room:Int}{M:SMach}{C:Nat->List UInt8}{E:Nat->Nat->List UInt8}(g:RightG ns)(hb:Z5 ns fs)(Bh:1<=room)(h:MInv ns fs room M C E)(hno:overS M=false):∃a,a<M.ps.length/\(K7 M a).2=0:=by
 refine Classical.byContradiction fun Ae=>?_;have hst:∀a,a<M.ps.length->(K7 M a).2≠0:=fun a ha e=>Ae ⟨a,ha,e⟩;have Ed:∀a,a<ns.length->∃n p,ns[a]? = some n/\M.ps[a]? = some p:=fun a ha=>⟨_,_,gEl ha,gEl (by rw[h.plen];exact ha)⟩
 have hwr:∀(a:Nat)(n:SNode)(p:SProc)(k:Nat)(b:List UInt8),ns[a]? = some n->M.ps[a]? = some p->p.ov=false->p.out[k]? = some b->b≠[]->¬0<(pwrite (M.pipe (D2 M.ns ((a:Int),(k:Int)))) b).2.1 ->
  n.kind≠2/\∃r pr,a<r/\M.ps[r]? = some pr/\pr.ov=false/\(M.pipe (D2 ns ((a:Int),(k:Int)))).b≠[]:=by
  intro a n p k b hn hp hov hk hbn Ee
  have hpr:=h.proc a n p hn hp
  have hch:=g.node n (mGt hn)
  have Ds:=o5 hch fs (n.ins.map (f9 (j4 fs [] ns)))
  have hkl:k<p.out.length:=(gSm hk).1
  have hol:=hpr.olen
  have hkn:(k:Int)<nouts n:=by omega
  obtain⟨r,j,n',hn',hj,har,Au,hql⟩:=g.reader hn hkn
  obtain⟨x,hx⟩:∃x,M.pipes[b7 ns r+j]? = some x:=⟨_,gEl (by rw[h.xlen];exact hql)⟩
  obtain⟨pr,hr⟩:∃pr,M.ps[r]? = some pr:=⟨_,gEl (by rw[h.plen];exact (gSm hn').1)⟩
  obtain⟨q1,q2⟩:=h.pipe r n' j a k pr p x hn' hj hr hp hx
  rw[h.ens,Au]at Ee
  rw[Au]
  have hxp:M.pipe (b7 ns r+j)=x:=by unfold SMach.pipe;rw[hx];rfl
  rw[hxp]at Ee ⊢
  have hcl:x.closed=false:=q2.closed.trans hov
  have hbl:0<b.length:=zK.2 hbn
  have hsh:x.shut=false:=by
   cases hs:x.shut with
   | false=>rfl
   | true=>rw[aw5 q2.good hcl hs]at Ee;exact absurd hbl Ee
  rw[aw6 q2.good hcl hsh]at Ee
  have Av:=Q0 q2.good
  have Ad:plim x.room<=(x.b.length:Int):=by
   have:=bq0 (m:=b.length) Av.2.2.1
   simp only at Ee
   rw[show pfit b.length x.b.length x.room=0 by omega]at this
   split at this <;> omega
  have Gf:=q2.flow hsh
  rw[hk]at Gf
  simp only[xG]at Gf
  have hds:=ar5 g fs hn hkn
  have hpre:=(hpr.pre k _ hds).length_le
  have hbk:=hb a k
  have hlen:(E a k).length=(C (b7 ns r+j)).length+x.b.length+b.length:=by rw[Gf];simp;omega
  refine⟨fun h2=>?_,r,pr,har,hr,?_,fun e=>?_⟩
  . have:x.room=0:=by rw[q1];unfold roomOf;rw[qF (by simp[hn,h2])]
    rw[this]at Ad
    unfold plim at Ad
    rw[qF rfl]at Ad
    omega
  .
   cases ho:pr.ov with
   | false=>rfl
   | true=>
    have hrd:=(h.proc r n' pr hn' hr).ovrd ho
    have:=q2.all hsh hrd
    rw[this]at hlen
    omega
  .
   rw[e]at Ad
   unfold plim at Ad
   split at Ad
   . simp at Ad
   .
    have:x.room=room:=by
     rw[q1]
     unfold roomOf
     split
     . rename_i h2
       rename_i h3
       exact absurd (by rw[q1];unfold roomOf;rw[qF h2]) h3
     . rfl
    simp at Ad
    omega
 have hrd:∀(a:Nat)(n:SNode)(p:SProc),ns[a]? = some n->M.ps[a]? = some p->p.rd=false->p.got≠[]->(M.pipe (b7 ns a+p.pos.toNat)).b=[]->(M.pipe (b7 ns a+p.pos.toNat)).closed=false ->
  ∃(i:Nat)(pw:SProc)(k:Nat),i<a/\M.ps[i]? = some pw/\pw.ov=false/\∃m,ns[i]? = some m/\(k:Int)<nouts m/\D2 ns ((i:Int),(k:Int))=b7 ns a+p.pos.toNat:=by
  intro a n p hn hp hrd Bc hem hcl
  have hpr:=h.proc a n p hn hp
  have Ce:(n.ins.map (f9 (j4 fs [] ns))).length=n.ins.length:=qM _
  have hgl:p.got.length=n.ins.length:=hpr.glen.trans Ce
  have hg0:n.ins.length≠0:=fun e=>Bc (qn.1 (hgl.trans e))
  obtain⟨m,hw⟩:=hpr.wait hrd
  have hmt:p.pos.toNat=m:=by rw[hw.pos];simp
  rw[hmt]at hcl ⊢
  have hml:m<n.ins.length:=by rw[<- Ce];exact hw.lt (by omega)
  obtain⟨po,hpo⟩:∃po,n.ins[m]? = some po:=⟨_,gEl hml⟩
  obtain⟨i,k,m',epo,hia,hm',hk⟩:=g.src hn hpo
  subst epo
  obtain⟨x,hx⟩:∃x,M.pipes[b7 ns a+m]? = some x:=⟨_,gEl (by rw[h.xlen];exact M1 hn hml)⟩
  have hxp:M.pipe (b7 ns a+m)=x:=by unfold SMach.pipe;rw[hx];rfl
  rw[hxp]at hcl
  obtain⟨pw,hpw⟩:∃pw,M.ps[i]? = some pw:=⟨_,gEl (by rw[h.plen];exact (gSm hm').1)⟩
  obtain⟨q1,q2⟩:=h.pipe a n m i k p pw x hn hpo hp hpw hx
  exact⟨i,pw,k,hia,hpw,q2.closed.symm.trans hcl,m',hm',hk,g.into hn hpo⟩
 have noread:∀(a:Nat)(n:SNode)(p:SProc),ns[a]? = some n->M.ps[a]? = some p->p.rd=false->p.got≠[]->(M.pipe (b7 ns a+p.pos.toNat)).b=[]->(M.pipe (b7 ns a+p.pos.toNat)).closed=false->False:=by
  intro a
  induction a using Nat.strongRecOn with
  | ind a ih=>
   intro n p hn hp h1 h2 h3 h4
   obtain⟨i,pw,k,hia,hpw,hov,m,hm,hk,hq⟩:=hrd a n p hn hp h1 h2 h3 h4
   have hst':=hst i (gSm hpw).1
   rcases aH4 (by rw[h.ens];exact hm) hpw hst' hov with⟨k',b,hk',hb',hs'⟩|⟨s1,s2,s3,s4,s5⟩
   .
    obtain⟨h2',r,pr,har,hr,hro,hne⟩:=hwr i m pw k' b hm hpw hov hk' hb' hs'
    have hpr:=h.proc i m pw hm hpw
    have hch:=g.node m (mGt hm)
    have Ds:=o5 hch fs (m.ins.map (f9 (j4 fs [] ns)))
    have hkl:k'<pw.out.length:=(gSm hk').1
    have hol:=hpr.olen
    have hno:nouts m<=1:=by unfold nouts;rw[qA h2'];split <;> omega
    have e1:k'=k:=by omega
    subst e1
    rw[hq]at hne
    exact hne h3
   . rw[h.ens]at s4 s5
     exact ih i hia m pw hm hpw s2 s3 s4 s5
 have hex:∃a,a<ns.length/\∃p,M.ps[a]? = some p/\p.ov=false:=by
  have:¬∀p∈M.ps,p.ov=true:=by
   intro hc;have:overS M=true:=zS.2 hc;rw[hno]at this
   cases this
  simp only[Classical.not_forall]at this;obtain⟨p,hp,ho⟩:=this;obtain⟨a,ha⟩:=qb hp;exact⟨a,by rw[<- h.plen];exact (gSm ha).1,p,ha,by simpa using ho⟩
 have key:∀d a,ns.length-a=d->a<ns.length->∀p,M.ps[a]? = some p->p.ov=false->False:=by
  intro d
  induction d using Nat.strongRecOn with
  | ind d ih=>
   intro a hd ha p hp hov
   obtain⟨n,_,hn,_⟩:=Ed a ha
   rcases aH4 (by rw[h.ens];exact hn) hp (hst a (gSm hp).1) hov with⟨k,b,hk,hbn,hs⟩|⟨s1,s2,s3,s4,s5⟩
   . obtain⟨_,r,pr,har,hr,hro,_⟩:=hwr a n p k b hn hp hov hk hbn hs
     have hrl:r<ns.length:=by rw[<- h.plen];exact (gSm hr).1
     exact ih (ns.length-r) (by omega) r rfl hrl pr hr hro
   . rw[h.ens]at s4 s5
     exact noread a n p hn hp s2 s3 s4 s5
 obtain⟨a,ha,p,hp,ho⟩:=hex;exact key _ a rfl ha p hp ho
end Go.Gs
