/- What the developers' checkProcess does, and more. -/
import Derived.Test.YtllgglolcgdehaaGreatDoorSAb
import Derived.Test.YtllgglolcgdehaaGreatDoorSa18
set_option linter.all false
set_option maxRecDepth 100000
set_option maxHeartbeats 16000000
namespace Go.Proofs.YtllgglolcgdehaaGreatDoor
open Go.RowKit Go.Gs Tryz
theorem cs4{w:World}{o p:Obj}:Bq w ((w.alloc o).alloc p):=(boxE (w:=w) (o:=o)).alloc (by simp) p
theorem cs5{w w':World}{a b c d e f g h i j k l m:Value}{t t':TypeId}(hb:Below ((w.alloc (.cells #[a,b,c,d,e,f,g,h] t)).alloc (.cells #[i,j,k,l,m] t')).heap.size ((w.alloc (.cells #[a,b,c,d,e,f,g,h] t)).alloc (.cells #[i,j,k,l,m] t')) w'):
 w'.heap[w.heap.size]? = some (.cells #[a,b,c,d,e,f,g,h] t (0,0))/\w'.heap[w.heap.size+1]? = some (.cells #[i,j,k,l,m] t' (0,0)):=by
 refine⟨(hb.block _ (by simp;omega)).trans ?_,(hb.block _ (by simp)).trans ?_⟩
 . rw[boxE.block _ (by simp)];exact qN w _
 . have:=qN (w.alloc (.cells #[a,b,c,d,e,f,g,h] t)) (.cells #[i,j,k,l,m] t');simpa using this
theorem A5{w:World}{k:Nat}{xs:Array Value}{t:TypeId}(h:w.heap[k]? = some (.cells xs t (0,0)))(j:Nat):w.cell? ⟨k,j,none⟩=xs[j]?:=qV _ _ _ _ _ _ h
theorem bi4{n:SNode}{p:SProc}(h:p.got.length≠n.ins.length\/(p.out.length:Int)≠nouts n):E1 n p=4:=by unfold E1;rw[qF h]
theorem aU6{n:SNode}{p:SProc}(h:¬(p.got.length≠n.ins.length\/(p.out.length:Int)≠nouts n))(h2:p.pos<0\/(n.ins.length:Int)<p.pos\/(p.ov=true/\p.rd=false)\/(p.rd=false/\0<n.ins.length/\p.pos=n.ins.length)):E1 n p=3:=by unfold E1;rw[qA h,qF h2]
theorem bi5{n:SNode}{p:SProc}(h:¬(p.got.length≠n.ins.length\/(p.out.length:Int)≠nouts n))(h2:¬(p.pos<0\/(n.ins.length:Int)<p.pos\/(p.ov=true/\p.rd=false)\/(p.rd=false/\0<n.ins.length/\p.pos=n.ins.length))):E1 n p=if V7 p.got || V7 p.out then 2 else 0:=by unfold E1;rw[qA h,qA h2]
theorem aJ5(n:SNode)(ai:Option Addr)(ci:Nat)(p:SProc)(ag ab:Option Addr)(cg cb:Nat)(w:World)(hg:RList w (.slice ag p.got.length cg) U p.got)(ho:RList w (.slice ab p.out.length cb) U p.out)(hi:n.ins.length<=9223372036854775807)(Fp:-9223372036854775808<=p.pos/\p.pos<=9223372036854775807):
 Calls prog 67 #[C6 n ai n.ins.length ci,.agg #[.slice ag p.got.length cg,.int .i64 p.pos,.slice ab p.out.length cb,.bool p.rd,.bool p.ov]] w fun e w'=>e=.returned (.int .i64 (E1 n p))/\Bq w w':=by
 have HG:Hid _:=fun(W:World)(hW:Bq w W)=>aQ4 ag cg p.got W (hg.below hW);have HO:Hid _:=fun(W:World)(hW:Bq w W)=>aQ4 ab cb p.out W (ho.below hW);have HU:Hid _:=fun(W:World)=>ay2 n ai n.ins.length ci W;have hgl:=aP3 hg;have hol:=aP3 ho;have HF:Hid _:=fun h=>bi4 (n:=n) (p:=p) h;have HR:Hid _:=fun h h2=>aU6 (n:=n) (p:=p) h h2;have HZ:Hid _:=fun h h2=>bi5 (n:=n) (p:=p) h h2;generalize E1 n p=Z at *;generalize nouts n=NO at *;generalize V7 p.got=AG at *;generalize V7 p.out=AO at *;generalize p.got.length=GL at *;generalize p.out.length=OL at *;generalize n.ins.length=IL at *;generalize p.pos=ps at *;generalize p.rd=rd at *;generalize p.ov=ov at *;unfold C6 at *;generalize (⟨n.file.toArray⟩:ByteArray)=fx at *;generalize (⟨n.c.word.toArray⟩:ByteArray)=wx0 at *;generalize n.c.kind=ck at *;generalize n.c.n=cn' at *
 generalize n.how=hw at *;generalize n.wide=wd at *;generalize n.kind=nk at *;clear hg ho;obtain⟨W,hW⟩:=qE ((w.alloc (.cells #[.int .i64 nk,.string fx,.int .i64 ck,.string wx0,.int .i64 cn',.int .i64 hw,.int .i64 wd,.slice ai IL ci] 73)).alloc (.cells #[.slice ag GL cg,.int .i64 ps,.slice ab OL cb,.bool rd,.bool ov] 76));have HW:=qH (show Bq w W by rw[hW];exact cs4);obtain⟨x1,x2⟩:=cs5 (w:=w) (w':=W) (by rw[hW];exact qI _ _);have a0:=A5 x1 0;have a1:=A5 x1 1;have a2:=A5 x1 2;have a3:=A5 x1 3;have a4:=A5 x1 4;have a5:=A5 x1 5;have a6:=A5 x1 6;have a7:=A5 x1 7;have b0:=A5 x2 0;have b2:=A5 x2 2;simp at a0 a1 a2 a3 a4 a5 a6 a7 b0 b2;have k0:=fun d os=>cell_regrown a0 d os;have k1:=fun d os=>cell_regrown a1 d os;have k2:=fun d os=>cell_regrown a2 d os;have k3:=fun d os=>cell_regrown a3 d os;have k4:=fun d os=>cell_regrown a4 d os
 have k5:=fun d os=>cell_regrown a5 d os;have k6:=fun d os=>cell_regrown a6 d os;have k7:=fun d os=>cell_regrown a7 d os;have l0:=fun d os=>cell_regrown b0 d os;have l2:=fun d os=>cell_regrown b2 d os;have cF:∀d os,Calls prog 62 #[.agg #[.int .i64 nk,.string fx,.int .i64 ck,.string wx0,.int .i64 cn',.int .i64 hw,.int .i64 wd,.slice ai IL ci]] (Go.Sort.grow (redrawn W d) os) fun e w''=>e=.returned (.int .i64 NO)/\∃p:Regrown,w''=Go.Sort.grow (redrawn W p.d) p.os:=fun d os=>Calls.regrown_of (HU.out _);have X2:Hid _:=x2;have hs:w.heap.size+1<W.heap.size:=(aSm x2).1;clear x1 x2 a0 a1 a2 a3 a4 a5 a6 a7 b0 b2 HU;go_enter Tryz.func67,Tryz.ntmps67;by_cases h1:GL=IL
 .
  subst h1;by_cases h2:(OL:Int)=NO
  .
   have hNF:¬(GL≠GL\/(OL:Int)≠NO):=fun h=>h.elim (fun h=>h rfl) (fun h=>h h2);have HR2:Hid _:=fun h=>HR.out hNF h;have HZ2:Hid _:=fun h=>HZ.out hNF h;clear HR HZ HF;subst h2;go_upto_region 2 with fail;rw[<- hW];clear hW;refine wp_region_quiet_below (by kernel_rfl) (by kernel_rfl) ?_;repeat (first|go_big_quiet_step (exact cF _ _) | quiet_step (exact cF _ _))
   refine wpQuiet_nil ?_;intro _ hw';obtain⟨⟨dq,osq⟩,Cb⟩:=hw';subst Cb;have HB3:Hid (Bq w (Go.Sort.grow (redrawn W dq) osq)):=HW.out.trans ((below_regrown W dq osq).mono HW.out.size);have x3:(Go.Sort.grow (redrawn W dq) osq).heap[w.heap.size+1]? = some (.cells #[.slice ag GL cg,.int .i64 ps,.slice ab OL cb,.bool rd,.bool ov] 76 (0,0)):=((below_regrown W dq osq).block _ hs).trans X2.out;clear cF k0 k1 k2 k3 k4 k5 k6 k7 l0 l2 HW X2 hs;generalize (Go.Sort.grow (redrawn W dq) osq)=w3 at *;have y0:=A5 x3 0;have y1:=A5 x3 1;have y2:=A5 x3 2;have y3:=A5 x3 3;have y4:=A5 x3 4;simp at y0 y1 y2 y3 y4;have hw3:w.heap.size+1<w3.heap.size:=(aSm x3).1;clear x3;by_cases h3:ps<0\/(GL:Int)<ps\/(ov=true/\rd=false)\/(rd=false/\0<GL/\ps=GL)
   .
    have HP:Hid (Z=3):=HR2.out h3;clear HR2 HZ2 HG HO;by_cases q1:ps<0
    . clear h3;go_wp2_with fail;go_ret;exact⟨by rw[HP.out];rfl,HB3.out⟩
    .
     by_cases q2:(GL:Int)<ps
     . clear h3;go_wp2_with fail;go_ret;exact⟨by rw[HP.out];rfl,HB3.out⟩
     . cases ov <;> cases rd
       . have q3:0<(GL:Int)/\ps=GL:=by simp at h3;omega
         obtain⟨q4,q5⟩:=q3;subst q5;clear h3;go_wp2_with fail;go_ret;exact⟨by rw[HP.out];rfl,HB3.out⟩
       . exfalso;simp at h3;omega
       . clear h3;go_wp2_with fail;go_ret;exact⟨by rw[HP.out];rfl,HB3.out⟩
       . exfalso;simp at h3;omega
   .
    have HP:Hid _:=HZ2.out h3;clear HR2 HZ2;have q1:¬ps<0:=fun h=>h3 (.inl h);have q2:¬(GL:Int)<ps:=fun h=>h3 (.inr (.inl h))
    cases rd
    .
     cases ov
     .
      by_cases q4:0<(GL:Int)
      . have q5:¬ps=(GL:Int):=fun h=>h3 (.inr (.inr (.inr ⟨rfl,by omega,h⟩)));clear h3;go_wp2_with fail;have hQ:=HG.out w3 HB3.out;refine qD hQ ?_;rintro e w4⟨rfl,hb4⟩;have HB4:=qT HB3 hb4;have z2:=qC hb4 y2;clear hQ hb4 HB3 y0 y1 y2 y3 y4 HG
        cases AG
        . go_wp2_with fail;have hQ:=HO.out w4 HB4.out;refine qD hQ ?_;rintro e w5⟨rfl,hb5⟩;have HB5:=qT HB4 hb5;clear hQ hb5 HB4 HO
          cases AO
          . go_wp2_with fail;go_ret;exact⟨by rw[HP.out];rfl,HB5.out⟩
          . go_wp2_with fail;go_ret;exact⟨by rw[HP.out];rfl,HB5.out⟩
        . go_wp2_with fail;go_ret;exact⟨by rw[HP.out];rfl,HB4.out⟩
      . clear h3;go_wp2_with fail;have hQ:=HG.out w3 HB3.out;refine qD hQ ?_;rintro e w4⟨rfl,hb4⟩;have HB4:=qT HB3 hb4;have z2:=qC hb4 y2;clear hQ hb4 HB3 y0 y1 y2 y3 y4 HG
        cases AG
        . go_wp2_with fail;have hQ:=HO.out w4 HB4.out;refine qD hQ ?_;rintro e w5⟨rfl,hb5⟩;have HB5:=qT HB4 hb5;clear hQ hb5 HB4 HO
          cases AO
          . go_wp2_with fail;go_ret;exact⟨by rw[HP.out];rfl,HB5.out⟩
          . go_wp2_with fail;go_ret;exact⟨by rw[HP.out];rfl,HB5.out⟩
        . go_wp2_with fail;go_ret;exact⟨by rw[HP.out];rfl,HB4.out⟩
     . exfalso;exact h3 (.inr (.inr (.inl ⟨rfl,rfl⟩)))
    .
     clear h3
     cases ov
     .
      go_wp2_with fail;have hQ:=HG.out w3 HB3.out;refine qD hQ ?_;rintro e w4⟨rfl,hb4⟩;have HB4:=qT HB3 hb4;have z2:=qC hb4 y2;clear hQ hb4 HB3 y0 y1 y2 y3 y4 HG
      cases AG
      . go_wp2_with fail;have hQ:=HO.out w4 HB4.out;refine qD hQ ?_;rintro e w5⟨rfl,hb5⟩;have HB5:=qT HB4 hb5;clear hQ hb5 HB4 HO
        cases AO
        . go_wp2_with fail;go_ret;exact⟨by rw[HP.out];rfl,HB5.out⟩
        . go_wp2_with fail;go_ret;exact⟨by rw[HP.out];rfl,HB5.out⟩
      . go_wp2_with fail;go_ret;exact⟨by rw[HP.out];rfl,HB4.out⟩
     .
      go_wp2_with fail;have hQ:=HG.out w3 HB3.out;refine qD hQ ?_;rintro e w4⟨rfl,hb4⟩;have HB4:=qT HB3 hb4;have z2:=qC hb4 y2;clear hQ hb4 HB3 y0 y1 y2 y3 y4 HG
      cases AG
      . go_wp2_with fail;have hQ:=HO.out w4 HB4.out;refine qD hQ ?_;rintro e w5⟨rfl,hb5⟩;have HB5:=qT HB4 hb5;clear hQ hb5 HB4 HO
        cases AO
        . go_wp2_with fail;go_ret;exact⟨by rw[HP.out];rfl,HB5.out⟩
        . go_wp2_with fail;go_ret;exact⟨by rw[HP.out];rfl,HB5.out⟩
      . go_wp2_with fail;go_ret;exact⟨by rw[HP.out];rfl,HB4.out⟩
  . have HP:Hid (Z=4):=HF.out (.inr h2);clear HR HZ HF HG HO;go_upto_region 2 with fail;rw[<- hW];clear hW;refine wp_region_quiet_below (by kernel_rfl) (by kernel_rfl) ?_;repeat (first|go_big_quiet_step (exact cF _ _) | quiet_step (exact cF _ _))
    refine wpQuiet_nil ?_;intro _ hw';obtain⟨⟨dq,osq⟩,Cb⟩:=hw';subst Cb;have HB3:Hid (Bq w (Go.Sort.grow (redrawn W dq) osq)):=HW.out.trans ((below_regrown W dq osq).mono HW.out.size);have x3:(Go.Sort.grow (redrawn W dq) osq).heap[w.heap.size+1]? = some (.cells #[.slice ag GL cg,.int .i64 ps,.slice ab OL cb,.bool rd,.bool ov] 76 (0,0)):=((below_regrown W dq osq).block _ hs).trans X2.out;clear cF k0 k1 k2 k3 k4 k5 k6 k7 l0 l2 HW X2 hs;generalize (Go.Sort.grow (redrawn W dq) osq)=w3 at *;have y0:=A5 x3 0;have y1:=A5 x3 1;have y2:=A5 x3 2;have y3:=A5 x3 3;have y4:=A5 x3 4;simp at y0 y1 y2 y3 y4;have hw3:w.heap.size+1<w3.heap.size:=(aSm x3).1;clear x3;go_wp2_with fail;go_ret;exact⟨by rw[HP.out];rfl,HB3.out⟩
 .
  have HP:Hid (Z=4):=HF.out (.inl h1);have h1':¬(GL:Int)=IL:=by omega
  clear HR HZ HF HG HO;go_upto_region 2 with fail;rw[<- hW];clear hW;refine wp_region_quiet_below (by kernel_rfl) (by kernel_rfl) ?_;repeat (first|go_big_quiet_step (exact cF _ _) | quiet_step (exact cF _ _))
  refine wpQuiet_nil ?_;intro _ hw';obtain⟨⟨dq,osq⟩,Cb⟩:=hw';subst Cb;have HB3:Hid (Bq w (Go.Sort.grow (redrawn W dq) osq)):=HW.out.trans ((below_regrown W dq osq).mono HW.out.size);have x3:(Go.Sort.grow (redrawn W dq) osq).heap[w.heap.size+1]? = some (.cells #[.slice ag GL cg,.int .i64 ps,.slice ab OL cb,.bool rd,.bool ov] 76 (0,0)):=((below_regrown W dq osq).block _ hs).trans X2.out;clear cF k0 k1 k2 k3 k4 k5 k6 k7 l0 l2 HW X2 hs;generalize (Go.Sort.grow (redrawn W dq) osq)=w3 at *;have y0:=A5 x3 0;have y1:=A5 x3 1;have y2:=A5 x3 2;have y3:=A5 x3 3;have y4:=A5 x3 4;simp at y0 y1 y2 y3 y4;have hw3:w.heap.size+1<w3.heap.size:=(aSm x3).1;clear x3;go_wp2_with fail;go_ret;exact⟨by rw[HP.out];rfl,HB3.out⟩
theorem bs1{l:List Int}{k:Nat}{z:Int}(h:∀x∈l.take k,x=0)(hk:l[k]? = some z)(hz:z≠0):K5 l=z:=by
 unfold K5;have hkl:k<l.length:=(gSm hk).1;have e:l=l.take k++(z::l.drop (k+1)):=by rw[gEl hkl]at hk;injection hk with hk;rw[<- hk,<- qh hkl,qk]
 rw[e,List.find?_append];have h1:(l.take k).find? (fun x=>x != 0)=none:=by rw[zq];intro x hx;simp[h x hx]
 rw[h1,List.find?_cons,show (z != 0)=true by simpa using hz];rfl
theorem aH9:∀(ns:List SNode)(ps:List SProc)(k:Nat)(n:SNode)(p:SProc),(∀(i:Nat)(n:SNode)(p:SProc),i<k->ns[i]? = some n->ps[i]? = some p->E1 n p=0)->ns[k]? = some n->ps[k]? = some p->E1 n p≠0->G0 ns ps=E1 n p
 | [],_,k,n,p,_,hn,_,_=>by simp at hn
 | _::_,[],k,n,p,_,_,hp,_=>by simp at hp
 | m::ns,q::ps,0,n,p,_,hn,hp,hz=>by
  simp at hn hp
  subst hn hp
  unfold G0
  rw[qF hz]
 | m::ns,q::ps,k+1,n,p,h,hn,hp,hz=>by
  unfold G0
  rw[qA (by simp[h 0 m q (by omega) rfl rfl])]
  exact aH9 ns ps k n p (fun i n p hi hn hp=>h (i+1) n p (by omega) (by simpa using hn) (by simpa using hp)) (by simpa using hn) (by simpa using hp) hz
theorem at7(an af:Option Addr)(cn cf:Nat)(ns:List SNode)(fs:List SFile)(w:World)
 (hG:∀W,Bq w W->Calls prog 93 #[.agg #[.slice an ns.length cn]] W fun e w'=>e=.returned (.int .i64 (gchk ns))/\Bq W w')
 (hF:∀W,Bq w W->Calls prog 39 #[.slice af fs.length cf] W fun e w'=>e=.returned (.int .i64 (fchk fs))/\Bq W w'):
 Calls prog 58 #[.agg #[.slice an ns.length cn],.slice af fs.length cf] w fun e w'=>e=.returned (.int .i64 (if gchk ns≠0 then gchk ns else fchk fs))/\Bq w w':=by
 have HG:Hid _:=hG;have HF:Hid _:=hF;generalize ns.length=N at *;generalize fs.length=NF at *;generalize gchk ns=G at *;generalize fchk fs=F at *;clear hG hF;go_enter Tryz.func58,Tryz.ntmps58;go_wp2_with fail;have hQ:=HG.out _ (boxE (w:=w) (o:=.cells #[.slice an N cn] 24));refine qD hQ ?_;rintro e w1⟨rfl,hb1⟩;have HB1:Hid (Bq w w1):=boxE.trans (hb1.mono boxE.size);clear hQ hb1 HG;by_cases h:G=0
 . subst h;go_wp2_with fail;have hQ:=HF.out w1 HB1.out;refine qD hQ ?_;rintro e w2⟨rfl,hb2⟩;have HB2:=qT HB1 hb2;clear hQ hb2 HF HB1;go_wp2_with fail;go_ret;exact⟨rfl,HB2.out⟩
 . have HP:=qH (show (if G≠0 then G else F)=G by rw[qF h]);go_wp2_with fail;go_ret;exact⟨by first|rfl | (rw[HP.out];rfl),HB1.out⟩
theorem bs2{z:Int}(h:(Lit.int .i64 z).wf=true):-9223372036854775808<=z/\z<=9223372036854775807:=by simpa[Lit.wf,IntKind.min,IntKind.max,IntKind.signed,IntKind.bits]using h
theorem boxM{w w':World}{a b c d e:Value}{t:TypeId}(h:Below (w.alloc (.cells #[a,b,c,d,e] t)).heap.size (w.alloc (.cells #[a,b,c,d,e] t)) w'):
 w'.heap[w.heap.size]? = some (.cells #[a,b,c,d,e] t (0,0)):=(h.block _ (by simp)).trans (qN w _)
theorem cells5{w:World}{k:Nat}{a b c d e:Value}{t:TypeId}(h:w.heap[k]? = some (.cells #[a,b,c,d,e] t (0,0))):
 w.cell? ⟨k,0,none⟩=some a/\w.cell? ⟨k,1,none⟩=some b/\w.cell? ⟨k,2,none⟩=some c/\w.cell? ⟨k,3,none⟩=some d/\w.cell? ⟨k,4,none⟩=some e:=by
 refine⟨?_,?_,?_,?_,?_⟩
 all_goals
  rw[qV _ _ _ _ _ _ h];rfl
theorem bE4{M:SMach}(h:(if gchk M.ns≠0 then gchk M.ns else fchk M.fs)≠0):mchk M=(if gchk M.ns≠0 then gchk M.ns else fchk M.fs):=by
 unfold mchk;by_cases h1:gchk M.ns≠0
 . rw[qF h1,qF h1]
 . rw[qA h1]at h;rw[qA h1,qF h,qA h1]
theorem cd7{ns:List SNode}{fs:List SFile}(h:(if gchk ns≠0 then gchk ns else fchk fs)=0):gchk ns=0/\fchk fs=0:=by
 by_cases h1:gchk ns≠0
 . rw[qF h1]at h;exact absurd h h1
 . rw[qA h1]at h;exact⟨by simpa using h1,h⟩
theorem bT1{M:SMach}(h1:gchk M.ns=0)(h2:fchk M.fs=0)(h3:M.ps.length≠M.ns.length\/M.pipes.length≠(j3 M.ns).length):mchk M=4:=by unfold mchk;rw[qA (by simp[h1]),qA (by simp[h2]),qF h3]
theorem bE5{M:SMach}(h1:gchk M.ns=0)(h2:fchk M.fs=0)(h3:¬(M.ps.length≠M.ns.length\/M.pipes.length≠(j3 M.ns).length))(h4:K5 (M.pipes.map pchk)≠0):mchk M=K5 (M.pipes.map pchk):=by unfold mchk;rw[qA (by simp[h1]),qA (by simp[h2]),qA h3,qF h4]
theorem bE6{M:SMach}(h1:gchk M.ns=0)(h2:fchk M.fs=0)(h3:¬(M.ps.length≠M.ns.length\/M.pipes.length≠(j3 M.ns).length))(h4:K5 (M.pipes.map pchk)=0)(h5:G0 M.ns M.ps≠0):mchk M=G0 M.ns M.ps:=by unfold mchk;rw[qA (by simp[h1]),qA (by simp[h2]),qA h3,qA (by simp[h4]),qF h5]
theorem cd8{M:SMach}(h1:gchk M.ns=0)(h2:fchk M.fs=0)(h3:¬(M.ps.length≠M.ns.length\/M.pipes.length≠(j3 M.ns).length))(h4:K5 (M.pipes.map pchk)=0)(h5:G0 M.ns M.ps=0):mchk M=if 40000<M.sunk.length then 2 else 0:=by unfold mchk;rw[qA (by simp[h1]),qA (by simp[h2]),qA h3,qA (by simp[h4]),qA (by simp[h5])]
theorem bT2(an af ax ap aS:Option Addr)(cn cf cx cp cs:Nat)(M:SMach)(w:World)(hM:RMach w an af ax ap aS cn cf cx cp cs M)(Ad:FitsM M)
 (hG:∀W,Bq w W->Calls prog 93 #[.agg #[.slice an M.ns.length cn]] W fun e w'=>e=.returned (.int .i64 (gchk M.ns))/\Bq W w')
 (hF:∀W,Bq w W->Calls prog 39 #[.slice af M.fs.length cf] W fun e w'=>e=.returned (.int .i64 (fchk M.fs))/\Bq W w'):
 Calls prog 18 #[machV an af ax ap aS M cn cf cx cp cs] w fun e w'=>e=.returned (.int .i64 (mchk M))/\Bq w w':=by
 have HM:Hid _:=hM;have Db:=qH Ad;have HGv:Hid _:=fun(W:World)(hW:Bq w W)=>at7 an af cn cf M.ns M.fs W (fun V hV=>hG V (hW.trans (hV.mono hW.size))) (fun V hV=>hF V (hW.trans (hV.mono hW.size)));have hnl:=aq6 hM.nodes;have hfl:=Y2 hM.files;have hxl:=bQ6 hM.pipes;have hpl:=aZ3 hM.procs;have hsl:=(F6 hM.sunk).1;have HC0:Hid _:=fun h=>bE4 (M:=M) h;have HC1:Hid _:=fun h1 h2 h3=>bT1 (M:=M) h1 h2 h3;have HC2:Hid _:=fun h1 h2 h3 h4=>bE5 (M:=M) h1 h2 h3 h4;have HC3:Hid _:=fun h1 h2 h3 h4 h5=>bE6 (M:=M) h1 h2 h3 h4 h5;have HC4:Hid _:=fun h1 h2 h3 h4 h5=>cd8 (M:=M) h1 h2 h3 h4 h5;unfold machV;generalize mchk M=Z at *;obtain⟨N,hN⟩:=qE M.ns.length;obtain⟨NF,hNF⟩:=qE M.fs.length;obtain⟨NX,hNX⟩:=qE M.pipes.length;obtain⟨NP,hNP⟩:=qE M.ps.length;obtain⟨NS,hNS⟩:=qE M.sunk.length;have HN:=qH hN;have HNX:=qH hNX;have HNP:=qH hNP
 have HNS:=qH hNS;rw[<- hN,<- hNF]at HGv;rw[<- hN,<- hNX,<- hNP]at HC1 HC2 HC3 HC4;rw[<- hNS]at HC4;rw[<- hN]at hnl;rw[<- hNF]at hfl;rw[<- hNX]at hxl;rw[<- hNP]at hpl;rw[<- hNS]at hsl;rw[<- hN,<- hNF,<- hNX,<- hNP,<- hNS];have RN:=qH (show D4 w (.slice an N cn) M.ns by rw[hN];exact hM.nodes);have RX:=qH (show aa8 w (.slice ax NX cx) M.pipes by rw[hNX];exact hM.pipes);have RP:=qH (show U2 w (.slice ap NP cp) M.ps by rw[hNP];exact hM.procs);obtain⟨GV,hGV⟩:=qE ((if gchk M.ns≠0 then gchk M.ns else fchk M.fs));have HGV:=qH hGV;rw[<- hGV]at HGv HC0;clear hM Ad hG hF hN hNF hNX hNP hNS hGV;go_enter Tryz.func18,Tryz.ntmps18;go_wp2_with fail;have hQ:=HGv.out _ (boxE (w:=w) (o:=.cells #[.slice an N cn,.slice af NF cf,.slice ax NX cx,.slice ap NP cp,.slice aS NS cs] 30));refine qD hQ ?_;rintro e w1⟨rfl,hb1⟩;have hx1:=boxM hb1
 have HB1:Hid (Bq w w1):=boxE.trans (hb1.mono boxE.size);clear hQ hb1 HGv;have HX1:Hid _:=hx1;obtain⟨c0,c1,c2,c3,c4⟩:=cells5 hx1;by_cases hgv:GV=0
 .
  subst hgv;obtain⟨hg0,hf0⟩:=cd7 HGV.out.symm;have HG0:=qH hg0;have HF0:=qH hf0;have g:=F8 hg0;have HRG:=qH g;have h60:N<=60:=by rw[HN.out];exact g.le60
  have HIN:Hid _:=fun(W:World)(hW:Bq w W)=>bS1 an cn M.ns W ((D4.below (by rw[<- HN.out];exact RN.out) hW)) (fun n hn=>(A2 (g.node n hn)).1) g.le60;rw[<- HN.out]at HIN;obtain⟨NA,hNA⟩:=qE ((j3 M.ns).length);have HNA:=qH hNA;rw[<- hNA]at HC1 HC2 HC3 HC4 HIN;have k0:=fun d os=>cell_regrown c0 d os;have k1:=fun d os=>cell_regrown c1 d os;have k2:=fun d os=>cell_regrown c2 d os;have k3:=fun d os=>cell_regrown c3 d os;have k4:=fun d os=>cell_regrown c4 d os;have cF:∀d os,Calls prog 66 #[.agg #[.slice an N cn]] (Go.Sort.grow (redrawn w1 d) os) fun e w''=>e=.returned (.int .i64 (NA:Int))/\∃p:Regrown,w''=Go.Sort.grow (redrawn w1 p.d) p.os:=fun d os=>Calls.regrown_of (HIN.out _ (HB1.out.trans ((below_regrown w1 d os).mono HB1.out.size)));clear HC0 hg0 hf0 g hNA HGV HIN hx1;by_cases h3:NP=N
  .
   subst h3;by_cases h4:NX=NA
   .
    subst h4;have hnf:¬(NP≠NP\/NX≠NX):=fun h=>h.elim (fun h=>h rfl) (fun h=>h rfl);have HD2:Hid _:=fun h=>HC2.out HG0.out HF0.out hnf h;have HD3:Hid _:=fun h h'=>HC3.out HG0.out HF0.out hnf h h';have HD4:Hid _:=fun h h'=>HC4.out HG0.out HF0.out hnf h h';clear HC1 HC2 HC3 HC4 hnf;go_upto_region 4 with fail;refine wp_region_quiet_below (by kernel_rfl) (by kernel_rfl) ?_;repeat (first|go_big_quiet_step (exact cF _ _) | quiet_step (exact cF _ _))
    refine wpQuiet_nil ?_;intro _ hw';obtain⟨⟨dq,osq⟩,Cb⟩:=hw';subst Cb;have HB3:Hid (Bq w (Go.Sort.grow (redrawn w1 dq) osq)):=HB1.out.trans ((below_regrown w1 dq osq).mono HB1.out.size);have x3:(Go.Sort.grow (redrawn w1 dq) osq).heap[w.heap.size]? = some (.cells #[.slice an NP cn,.slice af NF cf,.slice ax NX cx,.slice ap NP cp,.slice aS NS cs] 30 (0,0)):=((below_regrown w1 dq osq).block _ (aSm HX1.out).1).trans HX1.out;clear cF k0 k1 k2 k3 k4 HB1 HX1 c0 c1 c2 c3 c4;generalize (Go.Sort.grow (redrawn w1 dq) osq)=w3 at *;have X3:Hid _:=x3;obtain⟨c0,c1,c2,c3,c4⟩:=cells5 x3;clear x3;go_wp2_with fail;go_loopw [38] (fun i wr=>∃k:Nat,k<=NX/\i=.int .i64 k/\Hid (Bq w3 wr)/\Hid (∀x∈(M.pipes.map pchk).take k,x=0)) (fun i _=>NX-(intOf i).toNat)
    case atStart=>exact⟨0,qP _,rfl,qI _ _,(show ∀x∈(M.pipes.map pchk).take 0,x=0 by simp)⟩
    case round=>
     obtain⟨k,hk,rfl,Aa,hz⟩:=hrel;have HBW:Hid (Bq w wr):=HB3.out.trans (Aa.out.mono HB3.out.size);have x4:=qK Aa.out X3.out;have X4:Hid _:=x4;clear c0 c1 c2 c3 c4;obtain⟨c0,c1,c2,c3,c4⟩:=cells5 x4;clear x4;by_cases hlt:k<NX
     .
      obtain⟨x,hx⟩:∃x,M.pipes[k]? = some x:=⟨_,gEl (by have:=HNX.out;omega)⟩;obtain⟨b,off,ab,cb,rfl,e0,e1,e2,e3,HRd⟩:=(aa8.below RX.out HBW.out).at hx;have hxl2:=(F6 HRd).1;have HCK:Hid _:=fun(W:World)=>ai7 ab x.b.length cb x.room x.closed x.shut W hxl2;obtain⟨z,hzz⟩:=qE (pck x.b.length x.room x.shut);have hzk:(M.pipes.map pchk)[k]? = some z:=by rw[qQ,hx,hzz];rfl
      have HZK:=qH hzk;rw[<- hzz]at HCK;generalize x.b.length=XL at *;generalize x.room=xr at *;generalize x.closed=xc at *;generalize x.shut=xs at *;clear hx HRd hzz hzk;go_wp2_with fail;refine qD (HCK.out _) ?_;rintro e w4⟨rfl,hb4⟩;have HB4:Hid (Bq wr w4):=boxE.trans (hb4.mono boxE.size);clear hb4 HCK e0 e1 e2 e3;by_cases h0:z=0
      .
       subst h0
       have HZ2:Hid (∀x∈(M.pipes.map pchk).take (k+1),x=0):=(show ∀x∈(M.pipes.map pchk).take (k+1),x=0 by
        intro x hx
        rw[qX,HZK.out]at hx
        rcases xB.1 hx with hx | hx
        . exact hz.out x hx
        . simpa using hx)
       clear hz;go_wp2_with fail;go_roundw
       case rel=>exact⟨k+1,by omega,by go_num,Aa.out.trans (HB4.out.mono Aa.out.size),HZ2⟩
       case measure=>simp[intOf];omega
      . have HP:=qH (show Z=z by
         have hbf:=bs1 hz.out HZK.out h0
         rw[HD2.out (by rw[hbf];exact h0),hbf])
        clear hz HD2 HD3 HD4;go_wp2_with fail;go_ret;exact⟨by rw[HP.out];rfl,HBW.out.trans (HB4.out.mono HBW.out.size)⟩
     .
      have hbz:K5 (M.pipes.map pchk)=0:=at1 (fun x hx=>hz.out x (by rw[qO (by rw[qM];have:=HNX.out;omega)];exact hx));have HE3:Hid _:=fun h=>HD3.out hbz h;have HE4:Hid _:=fun h=>HD4.out hbz h;clear hz HD2 HD3 HD4 hbz X3 HB3 Aa RX;generalize wr=wa at *;go_wp2_with fail;go_loopw [52] (fun i wr=>∃k:Nat,k<=NP/\i=.int .i64 k/\Hid (Bq wa wr)/\Hid (∀(i:Nat)(n:SNode)(p:SProc),i<k->M.ns[i]? = some n->M.ps[i]? = some p->E1 n p=0)) (fun i _=>NP-(intOf i).toNat)
      case atStart=>exact⟨0,qP _,rfl,qI _ _,(show ∀(i:Nat)(n:SNode)(p:SProc),i<0->M.ns[i]? = some n->M.ps[i]? = some p->E1 n p=0 from fun i n p h=>absurd h (by omega))⟩
      case round=>
       obtain⟨k,hk,rfl,Aa,hz⟩:=hrel;have HBV:Hid (Bq w wr):=HBW.out.trans (Aa.out.mono HBW.out.size);have x5:=qK Aa.out X4.out;have X5:Hid _:=x5;clear c0 c1 c2 c3 c4;obtain⟨c0,c1,c2,c3,c4⟩:=cells5 x5;clear x5;by_cases hlt:k<NP
       .
        obtain⟨n,hn⟩:∃n,M.ns[k]? = some n:=⟨_,gEl (by have:=HN.out;omega)⟩;obtain⟨p,hp⟩:∃p,M.ps[k]? = some p:=⟨_,gEl (by have:=HNP.out;omega)⟩;obtain⟨b,off,ai,ci,rfl,Uj,HPo⟩:=(D4.below RN.out HBV.out).at hn;obtain⟨b2,off2,ag,cg,ao,co,rfl,p0,p1,p2,p3,p4,HRg,HRo⟩:=(U2.below RP.out HBV.out).at hp;have hil:=Y3 HPo;have hps:=bs2 (Db.out.pos p (mGt hp));have HCP:Hid _:=fun(W:World)(hW:Bq wr W)=>aJ5 n ai ci p ag ao cg co W (HRg.below hW) (HRo.below hW) (by omega) hps;obtain⟨c8,c9,c10,c11,c12,c13,c14,c15⟩:=Uj;obtain⟨z,hzz⟩:=qE (E1 n p);have HZA:Hid (z≠0->G0 M.ns M.ps=z):=(show z≠0->G0 M.ns M.ps=z from fun h=>by rw[hzz];exact aH9 M.ns M.ps k n p hz.out hn hp (by rw[<- hzz];exact h))
        have HZB:Hid (z=0->∀(i:Nat)(n:SNode)(p:SProc),i<k+1->M.ns[i]? = some n->M.ps[i]? = some p->E1 n p=0):=(show z=0->∀(i:Nat)(n:SNode)(p:SProc),i<k+1->M.ns[i]? = some n->M.ps[i]? = some p->E1 n p=0 from fun h i n' p' hi hn' hp'=>by
         by_cases e:i=k
         . subst e
           rw[hn]at hn'
           rw[hp]at hp'
           injection hn' with hn'
           injection hp' with hp'
           subst hn' hp'
           rw[<- hzz];exact h
         . exact hz.out i n' p' (by omega) hn' hp')
        unfold C6 at HCP;rw[<- hzz]at HCP;generalize (⟨n.file.toArray⟩:ByteArray)=fx at *;generalize (⟨n.c.word.toArray⟩:ByteArray)=wx0 at *;generalize n.c.kind=ck at *;generalize n.c.n=cn' at *;generalize n.how=hw at *;generalize n.wide=wd at *;generalize n.kind=nk at *;generalize n.ins.length=IL at *;generalize p.got.length=GL at *;generalize p.out.length=OL at *;generalize p.pos=pp at *;generalize p.rd=rd at *;generalize p.ov=ov at *;clear hn hp HPo HRg HRo hzz hz hil hps;obtain⟨W,hW⟩:=qE (wr.alloc (.cells #[.int .i64 nk,.string fx,.int .i64 ck,.string wx0,.int .i64 cn',.int .i64 hw,.int .i64 wd,.slice ai IL ci] 73));have hBW:Bq wr W:=by rw[hW];exact boxE
        have Hy:=qH hBW;have xN:W.heap[wr.heap.size]? = some (.cells #[.int .i64 nk,.string fx,.int .i64 ck,.string wx0,.int .i64 cn',.int .i64 hw,.int .i64 wd,.slice ai IL ci] 73 (0,0)):=by rw[hW];exact qN _ _
        have a0:=A5 xN 0;have a1:=A5 xN 1;have a2:=A5 xN 2;have a3:=A5 xN 3;have a4:=A5 xN 4;have a5:=A5 xN 5;have a6:=A5 xN 6;have a7:=A5 xN 7;simp at a0 a1 a2 a3 a4 a5 a6 a7;have d3:=qC hBW c3;have r0:=qC hBW p0;have r1:=qC hBW p1;have r2:=qC hBW p2;have r3:=qC hBW p3;have r4:=qC hBW p4;have m0:=fun d os=>cell_regrown a0 d os;have m1:=fun d os=>cell_regrown a1 d os;have m2:=fun d os=>cell_regrown a2 d os;have m3:=fun d os=>cell_regrown a3 d os;have m4:=fun d os=>cell_regrown a4 d os;have m5:=fun d os=>cell_regrown a5 d os;have m6:=fun d os=>cell_regrown a6 d os;have m7:=fun d os=>cell_regrown a7 d os;have m8:=fun d os=>cell_regrown d3 d os;have s0:=fun d os=>cell_regrown r0 d os;have s1:=fun d os=>cell_regrown r1 d os;have s2:=fun d os=>cell_regrown r2 d os;have s3:=fun d os=>cell_regrown r3 d os;have s4:=fun d os=>cell_regrown r4 d os
        have cG:∀d os,Calls prog 67 #[.agg #[.int .i64 nk,.string fx,.int .i64 ck,.string wx0,.int .i64 cn',.int .i64 hw,.int .i64 wd,.slice ai IL ci],.agg #[.slice ag GL cg,.int .i64 pp,.slice ao OL co,.bool rd,.bool ov]] (Go.Sort.grow (redrawn W d) os) fun e w''=>e=.returned (.int .i64 z)/\∃p:Regrown,w''=Go.Sort.grow (redrawn W p.d) p.os:=fun d os=>Calls.regrown_of (HCP.out _ (Hy.out.trans ((below_regrown W d os).mono Hy.out.size)));clear HCP xN a0 a1 a2 a3 a4 a5 a6 a7 d3 r0 r1 r2 r3 r4 hBW;go_upto_region 16 with fail;rw[<- hW];clear hW;refine wp_region_quiet_below (by kernel_rfl) (by kernel_rfl) ?_;repeat (first|go_big_quiet_step (exact cG _ _) | quiet_step (exact cG _ _))
        refine wpQuiet_nil ?_;intro _ hw';obtain⟨⟨dq,osq⟩,Cb⟩:=hw';subst Cb;have HB6:Hid (Bq wr (Go.Sort.grow (redrawn W dq) osq)):=Hy.out.trans ((below_regrown W dq osq).mono Hy.out.size);clear cG m0 m1 m2 m3 m4 m5 m6 m7 m8 s0 s1 s2 s3 s4 Hy c0 c1 c2 c3 c4 c8 c9 c10 c11 c12 c13 c14 c15 p0 p1 p2 p3 p4;generalize (Go.Sort.grow (redrawn W dq) osq)=w6 at *;by_cases h0:z=0
        . subst h0;have HZ2:Hid _:=HZB.out rfl;clear HZA HZB;go_wp2_with fail;go_roundw
          case rel=>exact⟨k+1,by omega,by go_num,Aa.out.trans (HB6.out.mono Aa.out.size),HZ2⟩
          case measure=>simp[intOf];omega
        . have HP:=qH (show Z=z by
           have h1:=HZA.out h0
           rw[HE3.out (by rw[h1];exact h0),h1])
          clear HZA HZB HE3 HE4;go_wp2_with fail;go_ret;exact⟨by rw[HP.out];rfl,HBV.out.trans (HB6.out.mono HBV.out.size)⟩
       . have HP:Hid (Z=if 40000<NS then 2 else 0):=HE4.out (ag6 _ _ (fun i n p hn hp=>hz.out i n p (by have:=(gSm hp).1;have:=HNP.out;omega) hn hp));clear hz HE3 HE4;go_wp2_with fail;refine qD (aQ3 _ _ _ _) ?_;rintro e w7⟨rfl,hb7⟩;have HB7:=qT HBV hb7;clear hb7;by_cases hs4:40000<NS
         . rw[qd hs4];rw[qF hs4]at HP;go_wp2_with fail;go_ret;exact⟨by rw[HP.out];rfl,HB7.out⟩
         . rw[qU hs4];rw[qA hs4]at HP;go_wp2_with fail;go_ret;exact⟨by rw[HP.out];rfl,HB7.out⟩
   . have h4':¬(NX:Int)=NA:=by omega
     have HP:Hid (Z=4):=HC1.out HG0.out HF0.out (.inr h4);clear HC1 HC2 HC3 HC4;go_upto_region 4 with fail;refine wp_region_quiet_below (by kernel_rfl) (by kernel_rfl) ?_;repeat (first|go_big_quiet_step (exact cF _ _) | quiet_step (exact cF _ _))
     refine wpQuiet_nil ?_;intro _ hw';obtain⟨⟨dq,osq⟩,Cb⟩:=hw';subst Cb;have HB3:Hid (Bq w (Go.Sort.grow (redrawn w1 dq) osq)):=HB1.out.trans ((below_regrown w1 dq osq).mono HB1.out.size);have x3:(Go.Sort.grow (redrawn w1 dq) osq).heap[w.heap.size]? = some (.cells #[.slice an NP cn,.slice af NF cf,.slice ax NX cx,.slice ap NP cp,.slice aS NS cs] 30 (0,0)):=((below_regrown w1 dq osq).block _ (aSm HX1.out).1).trans HX1.out;clear cF k0 k1 k2 k3 k4 HB1 HX1 c0 c1 c2 c3 c4;generalize (Go.Sort.grow (redrawn w1 dq) osq)=w3 at *;clear x3;go_wp2_with fail;go_ret;exact⟨by rw[HP.out];rfl,HB3.out⟩
  . have h3':¬(NP:Int)=N:=by omega
    have HP:Hid (Z=4):=HC1.out HG0.out HF0.out (.inl h3);clear HC1 HC2 HC3 HC4;go_upto_region 4 with fail;refine wp_region_quiet_below (by kernel_rfl) (by kernel_rfl) ?_;repeat (first|go_big_quiet_step (exact cF _ _) | quiet_step (exact cF _ _))
    refine wpQuiet_nil ?_;intro _ hw';obtain⟨⟨dq,osq⟩,Cb⟩:=hw';subst Cb;have HB3:Hid (Bq w (Go.Sort.grow (redrawn w1 dq) osq)):=HB1.out.trans ((below_regrown w1 dq osq).mono HB1.out.size);have x3:(Go.Sort.grow (redrawn w1 dq) osq).heap[w.heap.size]? = some (.cells #[.slice an N cn,.slice af NF cf,.slice ax NX cx,.slice ap NP cp,.slice aS NS cs] 30 (0,0)):=((below_regrown w1 dq osq).block _ (aSm HX1.out).1).trans HX1.out;clear cF k0 k1 k2 k3 k4 HB1 HX1 c0 c1 c2 c3 c4;generalize (Go.Sort.grow (redrawn w1 dq) osq)=w3 at *;clear x3;go_wp2_with fail;go_ret;exact⟨by rw[HP.out];rfl,HB3.out⟩
 . have HP:Hid (Z=GV):=HC0.out hgv;clear HC0 HC1 HC2 HC3 HC4;go_wp2_with fail;go_ret;exact⟨by rw[HP.out];rfl,HB1.out⟩
end Go.Proofs.YtllgglolcgdehaaGreatDoor
