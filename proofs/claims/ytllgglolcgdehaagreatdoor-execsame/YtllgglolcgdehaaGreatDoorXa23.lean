/- What the developers' checkProcess does. -/
import Derived.Test.YtllgglolcgdehaaGreatDoorXa11
set_option maxRecDepth 100000
set_option maxHeartbeats 16000000
namespace Go.Proofs.YtllgglolcgdehaaGreatDoor
open Go.RowKit Go.Gs
set_option linter.unusedVariables false
theorem boxE2 {w:World} {o p:Obj}:Below w.heap.size w ((w.alloc o).alloc p):=(boxE (w:=w) (o:=o)).alloc (by simp) p
theorem box85 {w w':World} {a b c d e f g h i j k l m:Value} {t t':TypeId} (hb:Below ((w.alloc (.cells #[a,b,c,d,e,f,g,h] t)).alloc (.cells #[i,j,k,l,m] t')).heap.size ((w.alloc (.cells #[a,b,c,d,e,f,g,h] t)).alloc (.cells #[i,j,k,l,m] t')) w') :
 w'.heap[w.heap.size]? = some (.cells #[a,b,c,d,e,f,g,h] t (0,0))/\w'.heap[w.heap.size+1]? = some (.cells #[i,j,k,l,m] t' (0,0)):=by
 refine⟨(hb.block _ (by simp;omega)).trans ?_,(hb.block _ (by simp)).trans ?_⟩
 . rw[boxE.block _ (by simp)]
   exact heap_alloc_new w _
 . have:=heap_alloc_new (w.alloc (.cells #[a,b,c,d,e,f,g,h] t)) (.cells #[i,j,k,l,m] t')
   simpa using this
theorem cellsAt {w:World} {k:Nat} {xs:Array Value} {t:TypeId} (h:w.heap[k]? = some (.cells xs t (0,0))) (j:Nat):w.cell? ⟨k,j,none⟩=xs[j]?:=cell_of_row _ _ _ _ _ _ h
theorem procChk_form {n:SNode} {p:SProc} (h:p.got.length≠n.ins.length\/(p.out.length:Int)≠nouts n):procChk n p=4:=by unfold procChk;rw[if_pos h]
theorem procChk_range {n:SNode} {p:SProc} (h:¬(p.got.length≠n.ins.length\/(p.out.length:Int)≠nouts n)) (h2:p.pos<0\/(n.ins.length:Int)<p.pos\/(p.ov=true/\p.rd=false)\/(p.rd=false/\0<n.ins.length/\p.pos=n.ins.length)):procChk n p=3:=by
 unfold procChk;rw[if_neg h,if_pos h2]
theorem procChk_rest {n:SNode} {p:SProc} (h:¬(p.got.length≠n.ins.length\/(p.out.length:Int)≠nouts n)) (h2:¬(p.pos<0\/(n.ins.length:Int)<p.pos\/(p.ov=true/\p.rd=false)\/(p.rd=false/\0<n.ins.length/\p.pos=n.ins.length))):procChk n p=if anyLong p.got || anyLong p.out then 2 else 0:=by
 unfold procChk;rw[if_neg h,if_neg h2]
theorem checkProcess_is (n:SNode) (ai:Option Addr) (ci:Nat) (p:SProc) (ag ab:Option Addr) (cg cb:Nat) (w:World) (hg:RList w (.slice ag p.got.length cg) U p.got) (ho:RList w (.slice ab p.out.length cb) U p.out) (hi:n.ins.length<=9223372036854775807) (hpos:-9223372036854775808<=p.pos/\p.pos<=9223372036854775807) :
 Calls Tryz.prog 67 #[nodeV n ai n.ins.length ci,.agg #[.slice ag p.got.length cg,.int .i64 p.pos,.slice ab p.out.length cb,.bool p.rd,.bool p.ov]] w fun e w'=>e=.returned (.int .i64 (procChk n p))/\Below w.heap.size w w':=by
 have HG:Hid _:=fun (W:World) (hW:Below w.heap.size w W)=>anyLong_is ag cg p.got W (hg.below hW)
 have HO:Hid _:=fun (W:World) (hW:Below w.heap.size w W)=>anyLong_is ab cb p.out W (ho.below hW)
 have HU:Hid _:=fun (W:World)=>outs_is n ai n.ins.length ci W
 have hgl:=rlist_le hg
 have hol:=rlist_le ho
 have HF:Hid _:=fun h=>procChk_form (n:=n) (p:=p) h
 have HR:Hid _:=fun h h2=>procChk_range (n:=n) (p:=p) h h2
 have HZ:Hid _:=fun h h2=>procChk_rest (n:=n) (p:=p) h h2
 generalize procChk n p=Z at *
 generalize nouts n=NO at *
 generalize anyLong p.got=AG at *
 generalize anyLong p.out=AO at *
 generalize p.got.length=GL at *
 generalize p.out.length=OL at *
 generalize n.ins.length=IL at *
 generalize p.pos=ps at *
 generalize p.rd=rd at *
 generalize p.ov=ov at *
 unfold nodeV at *
 generalize (⟨n.file.toArray⟩:ByteArray)=fx at *
 generalize (⟨n.c.word.toArray⟩:ByteArray)=wx0 at *
 generalize n.c.kind=ck at *
 generalize n.c.n=cn' at *
 generalize n.how=hw at *
 generalize n.wide=wd at *
 generalize n.kind=nk at *
 clear hg ho
 obtain⟨W,hW⟩:∃W,W=(w.alloc (.cells #[.int .i64 nk,.string fx,.int .i64 ck,.string wx0,.int .i64 cn',.int .i64 hw,.int .i64 wd,.slice ai IL ci] 73)).alloc (.cells #[.slice ag GL cg,.int .i64 ps,.slice ab OL cb,.bool rd,.bool ov] 76):=⟨_,rfl⟩
 have HW:Hid (Below w.heap.size w W):=(show Below _ _ _ by rw[hW];exact boxE2)
 obtain⟨x1,x2⟩:=box85 (w:=w) (w':=W) (by rw[hW];exact Below.refl _ _)
 have a0:=cellsAt x1 0
 have a1:=cellsAt x1 1
 have a2:=cellsAt x1 2
 have a3:=cellsAt x1 3
 have a4:=cellsAt x1 4
 have a5:=cellsAt x1 5
 have a6:=cellsAt x1 6
 have a7:=cellsAt x1 7
 have b0:=cellsAt x2 0
 have b2:=cellsAt x2 2
 simp at a0 a1 a2 a3 a4 a5 a6 a7 b0 b2
 have k0:=fun d os=>cell_regrown a0 d os
 have k1:=fun d os=>cell_regrown a1 d os
 have k2:=fun d os=>cell_regrown a2 d os
 have k3:=fun d os=>cell_regrown a3 d os
 have k4:=fun d os=>cell_regrown a4 d os
 have k5:=fun d os=>cell_regrown a5 d os
 have k6:=fun d os=>cell_regrown a6 d os
 have k7:=fun d os=>cell_regrown a7 d os
 have l0:=fun d os=>cell_regrown b0 d os
 have l2:=fun d os=>cell_regrown b2 d os
 have cF:∀d os,Calls Tryz.prog 62 #[.agg #[.int .i64 nk,.string fx,.int .i64 ck,.string wx0,.int .i64 cn',.int .i64 hw,.int .i64 wd,.slice ai IL ci]] (Go.Sort.grow (redrawn W d) os) fun e w''=>e=.returned (.int .i64 NO) /\ ∃p:Regrown,w''=Go.Sort.grow (redrawn W p.d) p.os:=fun d os=>Calls.regrown_of (HU.out _)
 have X2:Hid _:=x2
 have hs:w.heap.size+1<W.heap.size:=(aSm x2).1
 clear x1 x2 a0 a1 a2 a3 a4 a5 a6 a7 b0 b2 HU
 go_enter Tryz.func67,Tryz.ntmps67
 by_cases h1:GL=IL
 .
  subst h1
  by_cases h2:(OL:Int)=NO
  .
   have hNF:¬(GL≠GL\/(OL:Int)≠NO):=fun h=>h.elim (fun h=>h rfl) (fun h=>h h2)
   have HR2:Hid _:=fun h=>HR.out hNF h
   have HZ2:Hid _:=fun h=>HZ.out hNF h
   clear HR HZ HF
   subst h2
   go_upto_region 2 with fail
   rw[<- hW]
   clear hW
   refine wp_region_quiet_below (by kernel_rfl) (by kernel_rfl) ?_
   repeat (first | go_big_quiet_step (exact cF _ _) | quiet_step (exact cF _ _))
   refine wpQuiet_nil ?_
   intro _ hw'
   obtain⟨⟨dq,osq⟩,hw''⟩:=hw'
   subst hw''
   have HB3:Hid (Below w.heap.size w (Go.Sort.grow (redrawn W dq) osq)):=HW.out.trans ((below_regrown W dq osq).mono HW.out.size)
   have x3:(Go.Sort.grow (redrawn W dq) osq).heap[w.heap.size+1]? = some (.cells #[.slice ag GL cg,.int .i64 ps,.slice ab OL cb,.bool rd,.bool ov] 76 (0,0)):=((below_regrown W dq osq).block _ hs).trans X2.out
   clear cF k0 k1 k2 k3 k4 k5 k6 k7 l0 l2 HW X2 hs
   generalize (Go.Sort.grow (redrawn W dq) osq)=w3 at *
   have y0:=cellsAt x3 0
   have y1:=cellsAt x3 1
   have y2:=cellsAt x3 2
   have y3:=cellsAt x3 3
   have y4:=cellsAt x3 4
   simp at y0 y1 y2 y3 y4
   have hw3:w.heap.size+1<w3.heap.size:=(aSm x3).1
   clear x3
   by_cases h3:ps<0\/(GL:Int)<ps\/(ov=true/\rd=false)\/(rd=false/\0<GL/\ps=GL)
   .
    have HP:Hid (Z=3):=HR2.out h3
    clear HR2 HZ2 HG HO
    by_cases q1:ps<0
    . clear h3
      go_wp2_with fail
      go_ret
      exact⟨by rw[HP.out];rfl,HB3.out⟩
    .
     by_cases q2:(GL:Int)<ps
     . clear h3
       go_wp2_with fail
       go_ret
       exact⟨by rw[HP.out];rfl,HB3.out⟩
     .
      cases ov <;> cases rd
      . have q3:0<(GL:Int)/\ps=GL:=by simp at h3;omega
        obtain⟨q4,q5⟩:=q3
        subst q5
        clear h3
        go_wp2_with fail
        go_ret
        exact⟨by rw[HP.out];rfl,HB3.out⟩
      . exfalso;simp at h3;omega
      . clear h3
        go_wp2_with fail
        go_ret
        exact⟨by rw[HP.out];rfl,HB3.out⟩
      . exfalso;simp at h3;omega
   .
    have HP:Hid _:=HZ2.out h3
    clear HR2 HZ2
    have q1:¬ps<0:=fun h=>h3 (.inl h)
    have q2:¬(GL:Int)<ps:=fun h=>h3 (.inr (.inl h))
    cases rd
    .
     cases ov
     .
      by_cases q4:0<(GL:Int)
      .
       have q5:¬ps=(GL:Int):=fun h=>h3 (.inr (.inr (.inr ⟨rfl,by omega,h⟩)))
       clear h3
       go_wp2_with fail
       have hQ:=HG.out w3 HB3.out
       refine Calls.mono hQ ?_
       rintro e w4 ⟨rfl,hb4⟩
       have HB4:Hid (Below w.heap.size w w4):=HB3.out.trans (hb4.mono HB3.out.size)
       have z2:=(hb4.cell (bLt w3 _ y2)).trans y2
       clear hQ hb4 HB3 y0 y1 y2 y3 y4 HG
       cases AG
       .
        go_wp2_with fail
        have hQ:=HO.out w4 HB4.out
        refine Calls.mono hQ ?_
        rintro e w5 ⟨rfl,hb5⟩
        have HB5:Hid (Below w.heap.size w w5):=HB4.out.trans (hb5.mono HB4.out.size)
        clear hQ hb5 HB4 HO
        cases AO
        . go_wp2_with fail
          go_ret
          exact⟨by rw[HP.out];rfl,HB5.out⟩
        . go_wp2_with fail
          go_ret
          exact⟨by rw[HP.out];rfl,HB5.out⟩
       . go_wp2_with fail
         go_ret
         exact⟨by rw[HP.out];rfl,HB4.out⟩
      .
       clear h3
       go_wp2_with fail
       have hQ:=HG.out w3 HB3.out
       refine Calls.mono hQ ?_
       rintro e w4 ⟨rfl,hb4⟩
       have HB4:Hid (Below w.heap.size w w4):=HB3.out.trans (hb4.mono HB3.out.size)
       have z2:=(hb4.cell (bLt w3 _ y2)).trans y2
       clear hQ hb4 HB3 y0 y1 y2 y3 y4 HG
       cases AG
       .
        go_wp2_with fail
        have hQ:=HO.out w4 HB4.out
        refine Calls.mono hQ ?_
        rintro e w5 ⟨rfl,hb5⟩
        have HB5:Hid (Below w.heap.size w w5):=HB4.out.trans (hb5.mono HB4.out.size)
        clear hQ hb5 HB4 HO
        cases AO
        . go_wp2_with fail
          go_ret
          exact⟨by rw[HP.out];rfl,HB5.out⟩
        . go_wp2_with fail
          go_ret
          exact⟨by rw[HP.out];rfl,HB5.out⟩
       . go_wp2_with fail
         go_ret
         exact⟨by rw[HP.out];rfl,HB4.out⟩
     . exfalso;exact h3 (.inr (.inr (.inl ⟨rfl,rfl⟩)))
    .
     clear h3
     cases ov
     .
      go_wp2_with fail
      have hQ:=HG.out w3 HB3.out
      refine Calls.mono hQ ?_
      rintro e w4 ⟨rfl,hb4⟩
      have HB4:Hid (Below w.heap.size w w4):=HB3.out.trans (hb4.mono HB3.out.size)
      have z2:=(hb4.cell (bLt w3 _ y2)).trans y2
      clear hQ hb4 HB3 y0 y1 y2 y3 y4 HG
      cases AG
      .
       go_wp2_with fail
       have hQ:=HO.out w4 HB4.out
       refine Calls.mono hQ ?_
       rintro e w5 ⟨rfl,hb5⟩
       have HB5:Hid (Below w.heap.size w w5):=HB4.out.trans (hb5.mono HB4.out.size)
       clear hQ hb5 HB4 HO
       cases AO
       . go_wp2_with fail
         go_ret
         exact⟨by rw[HP.out];rfl,HB5.out⟩
       . go_wp2_with fail
         go_ret
         exact⟨by rw[HP.out];rfl,HB5.out⟩
      . go_wp2_with fail
        go_ret
        exact⟨by rw[HP.out];rfl,HB4.out⟩
     .
      go_wp2_with fail
      have hQ:=HG.out w3 HB3.out
      refine Calls.mono hQ ?_
      rintro e w4 ⟨rfl,hb4⟩
      have HB4:Hid (Below w.heap.size w w4):=HB3.out.trans (hb4.mono HB3.out.size)
      have z2:=(hb4.cell (bLt w3 _ y2)).trans y2
      clear hQ hb4 HB3 y0 y1 y2 y3 y4 HG
      cases AG
      .
       go_wp2_with fail
       have hQ:=HO.out w4 HB4.out
       refine Calls.mono hQ ?_
       rintro e w5 ⟨rfl,hb5⟩
       have HB5:Hid (Below w.heap.size w w5):=HB4.out.trans (hb5.mono HB4.out.size)
       clear hQ hb5 HB4 HO
       cases AO
       . go_wp2_with fail
         go_ret
         exact⟨by rw[HP.out];rfl,HB5.out⟩
       . go_wp2_with fail
         go_ret
         exact⟨by rw[HP.out];rfl,HB5.out⟩
      . go_wp2_with fail
        go_ret
        exact⟨by rw[HP.out];rfl,HB4.out⟩
  .
   have HP:Hid (Z=4):=HF.out (.inr h2)
   clear HR HZ HF HG HO
   go_upto_region 2 with fail
   rw[<- hW]
   clear hW
   refine wp_region_quiet_below (by kernel_rfl) (by kernel_rfl) ?_
   repeat (first | go_big_quiet_step (exact cF _ _) | quiet_step (exact cF _ _))
   refine wpQuiet_nil ?_
   intro _ hw'
   obtain⟨⟨dq,osq⟩,hw''⟩:=hw'
   subst hw''
   have HB3:Hid (Below w.heap.size w (Go.Sort.grow (redrawn W dq) osq)):=HW.out.trans ((below_regrown W dq osq).mono HW.out.size)
   have x3:(Go.Sort.grow (redrawn W dq) osq).heap[w.heap.size+1]? = some (.cells #[.slice ag GL cg,.int .i64 ps,.slice ab OL cb,.bool rd,.bool ov] 76 (0,0)):=((below_regrown W dq osq).block _ hs).trans X2.out
   clear cF k0 k1 k2 k3 k4 k5 k6 k7 l0 l2 HW X2 hs
   generalize (Go.Sort.grow (redrawn W dq) osq)=w3 at *
   have y0:=cellsAt x3 0
   have y1:=cellsAt x3 1
   have y2:=cellsAt x3 2
   have y3:=cellsAt x3 3
   have y4:=cellsAt x3 4
   simp at y0 y1 y2 y3 y4
   have hw3:w.heap.size+1<w3.heap.size:=(aSm x3).1
   clear x3
   go_wp2_with fail
   go_ret
   exact⟨by rw[HP.out];rfl,HB3.out⟩
 .
  have HP:Hid (Z=4):=HF.out (.inl h1)
  have h1':¬(GL:Int)=IL:=by omega
  clear HR HZ HF HG HO
  go_upto_region 2 with fail
  rw[<- hW]
  clear hW
  refine wp_region_quiet_below (by kernel_rfl) (by kernel_rfl) ?_
  repeat (first | go_big_quiet_step (exact cF _ _) | quiet_step (exact cF _ _))
  refine wpQuiet_nil ?_
  intro _ hw'
  obtain⟨⟨dq,osq⟩,hw''⟩:=hw'
  subst hw''
  have HB3:Hid (Below w.heap.size w (Go.Sort.grow (redrawn W dq) osq)):=HW.out.trans ((below_regrown W dq osq).mono HW.out.size)
  have x3:(Go.Sort.grow (redrawn W dq) osq).heap[w.heap.size+1]? = some (.cells #[.slice ag GL cg,.int .i64 ps,.slice ab OL cb,.bool rd,.bool ov] 76 (0,0)):=((below_regrown W dq osq).block _ hs).trans X2.out
  clear cF k0 k1 k2 k3 k4 k5 k6 k7 l0 l2 HW X2 hs
  generalize (Go.Sort.grow (redrawn W dq) osq)=w3 at *
  have y0:=cellsAt x3 0
  have y1:=cellsAt x3 1
  have y2:=cellsAt x3 2
  have y3:=cellsAt x3 3
  have y4:=cellsAt x3 4
  simp at y0 y1 y2 y3 y4
  have hw3:w.heap.size+1<w3.heap.size:=(aSm x3).1
  clear x3
  go_wp2_with fail
  go_ret
  exact⟨by rw[HP.out];rfl,HB3.out⟩
end Go.Proofs.YtllgglolcgdehaaGreatDoor
