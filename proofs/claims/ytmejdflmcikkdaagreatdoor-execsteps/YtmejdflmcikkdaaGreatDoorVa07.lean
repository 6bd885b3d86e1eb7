/- What the developers' checkProcess does. -/
import Derived.Test.YtmejdflmcikkdaaGreatDoorVAb
import Derived.Test.YtmejdflmcikkdaaGreatDoorVa06
set_option linter.all false
set_option maxRecDepth 100000
set_option maxHeartbeats 64000000
namespace Go.Proofs.YtmejdflmcikkdaaGreatDoor
open Go.RowKit Go.Gs Tryz
variable {w:World}{t:TypeId}{k:Nat}{xs:Array Value}{n:SNode}{p:SProc}
theorem al4{o p:Obj}:Bq w ((w.alloc o).alloc p):=(boxE (w:=w) (o:=o)).alloc (by simp) p
theorem cg5{w':World}{a b c d e f g h i j k l m:Value}{t':TypeId}(hb:Below ((w.alloc (.cells #[a,b,c,d,e,f,g,h] t)).alloc (.cells #[i,j,k,l,m] t')).heap.size ((w.alloc (.cells #[a,b,c,d,e,f,g,h] t)).alloc (.cells #[i,j,k,l,m] t')) w'):
 w'.heap[w.heap.size]?=some (.cells #[a,b,c,d,e,f,g,h] t (0,0))/\w'.heap[w.heap.size+1]?=some (.cells #[i,j,k,l,m] t' (0,0)):=by
 refine⟨(hb.block _ (by simp;omega)).trans ?_,(hb.block _ (by simp)).trans ?_⟩
 . rw[boxE.block _ (by simp)];exact qJ w _
 . have:=qJ (w.alloc (.cells #[a,b,c,d,e,f,g,h] t)) (.cells #[i,j,k,l,m] t');simpa using this
theorem A8(h:w.heap[k]?=some (.cells xs t (0,0)))(j:Nat):w.cell? ⟨k,j,none⟩=xs[j]?:=qY _ _ _ _ _ _ h
theorem be6(h:p.got.length≠n.ins.length\/(p.out.length:Int)≠nouts n):C6 n p=4:=by unfold C6;rw[qF h]
theorem aS6(h:¬(p.got.length≠n.ins.length\/(p.out.length:Int)≠nouts n))(h2:p.pos<0\/(n.ins.length:Int)<p.pos\/(p.ov=true/\p.rd=false)\/(p.rd=false/\0<n.ins.length/\p.pos=n.ins.length)):C6 n p=3:=by unfold C6;rw[qB h,qF h2]
theorem be7(h:¬(p.got.length≠n.ins.length\/(p.out.length:Int)≠nouts n))(h2:¬(p.pos<0\/(n.ins.length:Int)<p.pos\/(p.ov=true/\p.rd=false)\/(p.rd=false/\0<n.ins.length/\p.pos=n.ins.length))):C6 n p=if J2 p.got || J2 p.out then 2 else 0:=by unfold C6;rw[qB h,qB h2]
theorem aH1(n:SNode)(ai:Option Addr)(ci:Nat)(p:SProc)(ag ab:Option Addr)(cg cb:Nat)(w:World)(hg:RList w (.slice ag p.got.length cg) U p.got)(ho:RList w (.slice ab p.out.length cb) U p.out)(hi:n.ins.length<=9223372036854775807)(Br:-9223372036854775808<=p.pos/\p.pos<=9223372036854775807):
 Calls prog 33 #[x8 n ai n.ins.length ci,.agg #[.slice ag p.got.length cg,.int .i64 p.pos,.slice ab p.out.length cb,.bool p.rd,.bool p.ov]] w fun e w'=>e=.returned (.int .i64 (C6 n p))/\Bq w w':=by
 have HG:Hid _:=fun(W:World)(hW:Bq w W)=>aK4 ag cg p.got W (hg.below hW);have HO:Hid _:=fun(W:World)(hW:Bq w W)=>aK4 ab cb p.out W (ho.below hW);have HU:Hid _:=fun(W:World)=>aI0 n ai n.ins.length ci W;have hgl:=V8 hg;have hol:=V8 ho;have HF:Hid _:=fun h=>be6 (n:=n) (p:=p) h;have HR:Hid _:=fun h h2=>aS6 (n:=n) (p:=p) h h2;have HZ:Hid _:=fun h h2=>be7 (n:=n) (p:=p) h h2;generalize C6 n p=Z,nouts n=NO,J2 p.got=AG,J2 p.out=AO,p.got.length=GL,p.out.length=OL,n.ins.length=IL,p.pos=ps,p.rd=rd,p.ov=ov at *;unfold x8 at *;generalize (⟨n.file.toArray⟩:ByteArray)=fx,(⟨n.c.word.toArray⟩:ByteArray)=wx0,n.c.kind=ck,n.c.n=cn',n.how=hw,n.wide=wd,n.kind=nk at *;clear hg ho;obtain⟨W,hW⟩:=qE ((w.alloc (.cells #[.int .i64 nk,.string fx,.int .i64 ck,.string wx0,.int .i64 cn',.int .i64 hw,.int .i64 wd,.slice ai IL ci] 57)).alloc (.cells #[.slice ag GL cg,.int .i64 ps,.slice ab OL cb,.bool rd,.bool ov] 64));have HW:=qH (show Bq w W by rw[hW];exact al4);obtain⟨x1,x2⟩:=cg5 (w:=w) (w':=W) (by rw[hW];exact Below.refl _ _);have a0:=A8 x1 0;have a1:=A8 x1 1;have a2:=A8 x1 2;have a3:=A8 x1 3;have a4:=A8 x1 4;have a5:=A8 x1 5;have a6:=A8 x1 6;have a7:=A8 x1 7;have b0:=A8 x2 0;have b2:=A8 x2 2;simp at a0 a1 a2 a3 a4 a5 a6 a7 b0 b2;have k0:=fun d os=>cell_regrown a0 d os;have k1:=fun d os=>cell_regrown a1 d os;have k2:=fun d os=>cell_regrown a2 d os;have k3:=fun d os=>cell_regrown a3 d os;have k4:=fun d os=>cell_regrown a4 d os;have k5:=fun d os=>cell_regrown a5 d os;have k6:=fun d os=>cell_regrown a6 d os;have k7:=fun d os=>cell_regrown a7 d os;have l0:=fun d os=>cell_regrown b0 d os;have l2:=fun d os=>cell_regrown b2 d os;have cF:∀d os,Calls prog 27 #[.agg #[.int .i64 nk,.string fx,.int .i64 ck,.string wx0,.int .i64 cn',.int .i64 hw,.int .i64 wd,.slice ai IL ci]] (Go.Sort.grow (redrawn W d) os) fun e w''=>e=.returned (.int .i64 NO)/\∃p:Regrown,w''=Go.Sort.grow (redrawn W p.d) p.os:=fun d os=>Calls.regrown_of (HU.o _);have X2:Hid _:=x2;have hs:w.heap.size+1<W.heap.size:=(aSm x2).1;clear x1 x2 a0 a1 a2 a3 a4 a5 a6 a7 b0 b2 HU;go_enter func33,ntmps33;by_cases h1:GL=IL
 .
  subst h1;by_cases h2:(OL:Int)=NO
  .
   have hNF:¬(GL≠GL\/(OL:Int)≠NO):=fun h=>h.elim (fun h=>h rfl) (fun h=>h h2);have HR2:Hid _:=fun h=>HR.o hNF h;have HZ2:Hid _:=fun h=>HZ.o hNF h;clear HR HZ HF;subst h2;go_upto_region 2 with fail;rw[<- hW];clear hW;refine wp_region_quiet_below qQ qQ ?_;repeat (first|go_big_quiet_step (exact cF _ _) | quiet_step (exact cF _ _))
   refine wpQuiet_nil ?_;intro _ hw';obtain⟨⟨dq,osq⟩,Av⟩:=hw';subst Av;have HB3:Hid (Bq w (Go.Sort.grow (redrawn W dq) osq)):=HW.o.trans ((below_regrown W dq osq).mono HW.o.size);have x3:(Go.Sort.grow (redrawn W dq) osq).heap[w.heap.size+1]?=some (.cells #[.slice ag GL cg,.int .i64 ps,.slice ab OL cb,.bool rd,.bool ov] 64 (0,0)):=((below_regrown W dq osq).block _ hs).trans X2.o;clear cF k0 k1 k2 k3 k4 k5 k6 k7 l0 l2 HW X2 hs;generalize (Go.Sort.grow (redrawn W dq) osq)=w3 at *;have y0:=A8 x3 0;have y1:=A8 x3 1;have y2:=A8 x3 2;have y3:=A8 x3 3;have y4:=A8 x3 4;simp at y0 y1 y2 y3 y4;have hw3:w.heap.size+1<w3.heap.size:=(aSm x3).1;clear x3;by_cases h3:ps<0\/(GL:Int)<ps\/(ov=true/\rd=false)\/(rd=false/\0<GL/\ps=GL)
   .
    have HP:Hid (Z=3):=HR2.o h3;clear HR2 HZ2 HG HO;by_cases q1:ps<0
    . clear h3;go_wp2_with fail;go_ret;exact⟨by rw[HP.o];rfl,HB3.o⟩
    .
     by_cases q2:(GL:Int)<ps
     . clear h3;go_wp2_with fail;go_ret;exact⟨by rw[HP.o];rfl,HB3.o⟩
     . cases ov <;> cases rd
       . have q3:0<(GL:Int)/\ps=GL:=by simp at h3;omega
         obtain⟨q4,q5⟩:=q3;subst q5;clear h3;go_wp2_with fail;go_ret;exact⟨by rw[HP.o];rfl,HB3.o⟩
       . exfalso;simp at h3;omega
       . clear h3;go_wp2_with fail;go_ret;exact⟨by rw[HP.o];rfl,HB3.o⟩
       . exfalso;simp at h3;omega
   .
    have HP:Hid _:=HZ2.o h3;clear HR2 HZ2;have q1:¬ps<0:=fun h=>h3 (.inl h);have q2:¬(GL:Int)<ps:=fun h=>h3 (.inr (.inl h))
    cases rd
    .
     cases ov
     .
      by_cases q4:0<(GL:Int)
      . have q5:¬ps=(GL:Int):=fun h=>h3 (.inr (.inr (.inr ⟨rfl,qO,h⟩)));clear h3;go_wp2_with fail;have hQ:=HG.o w3 HB3.o;refine qD hQ ?_;rintro e w4⟨rfl,hb4⟩;have HB4:=qT HB3 hb4;have z2:=qC hb4 y2;clear hQ hb4 HB3 y0 y1 y2 y3 y4 HG
        cases AG
        . go_wp2_with fail;have hQ:=HO.o w4 HB4.o;refine qD hQ ?_;rintro e w5⟨rfl,hb5⟩;have HB5:=qT HB4 hb5;clear hQ hb5 HB4 HO
          cases AO
          . go_wp2_with fail;go_ret;exact⟨by rw[HP.o];rfl,HB5.o⟩
          . go_wp2_with fail;go_ret;exact⟨by rw[HP.o];rfl,HB5.o⟩
        . go_wp2_with fail;go_ret;exact⟨by rw[HP.o];rfl,HB4.o⟩
      . clear h3;go_wp2_with fail;have hQ:=HG.o w3 HB3.o;refine qD hQ ?_;rintro e w4⟨rfl,hb4⟩;have HB4:=qT HB3 hb4;have z2:=qC hb4 y2;clear hQ hb4 HB3 y0 y1 y2 y3 y4 HG
        cases AG
        . go_wp2_with fail;have hQ:=HO.o w4 HB4.o;refine qD hQ ?_;rintro e w5⟨rfl,hb5⟩;have HB5:=qT HB4 hb5;clear hQ hb5 HB4 HO
          cases AO
          . go_wp2_with fail;go_ret;exact⟨by rw[HP.o];rfl,HB5.o⟩
          . go_wp2_with fail;go_ret;exact⟨by rw[HP.o];rfl,HB5.o⟩
        . go_wp2_with fail;go_ret;exact⟨by rw[HP.o];rfl,HB4.o⟩
     . exfalso;exact h3 (.inr (.inr (.inl ⟨rfl,rfl⟩)))
    .
     clear h3
     cases ov
     .
      go_wp2_with fail;have hQ:=HG.o w3 HB3.o;refine qD hQ ?_;rintro e w4⟨rfl,hb4⟩;have HB4:=qT HB3 hb4;have z2:=qC hb4 y2;clear hQ hb4 HB3 y0 y1 y2 y3 y4 HG
      cases AG
      . go_wp2_with fail;have hQ:=HO.o w4 HB4.o;refine qD hQ ?_;rintro e w5⟨rfl,hb5⟩;have HB5:=qT HB4 hb5;clear hQ hb5 HB4 HO
        cases AO
        . go_wp2_with fail;go_ret;exact⟨by rw[HP.o];rfl,HB5.o⟩
        . go_wp2_with fail;go_ret;exact⟨by rw[HP.o];rfl,HB5.o⟩
      . go_wp2_with fail;go_ret;exact⟨by rw[HP.o];rfl,HB4.o⟩
     .
      go_wp2_with fail;have hQ:=HG.o w3 HB3.o;refine qD hQ ?_;rintro e w4⟨rfl,hb4⟩;have HB4:=qT HB3 hb4;have z2:=qC hb4 y2;clear hQ hb4 HB3 y0 y1 y2 y3 y4 HG
      cases AG
      . go_wp2_with fail;have hQ:=HO.o w4 HB4.o;refine qD hQ ?_;rintro e w5⟨rfl,hb5⟩;have HB5:=qT HB4 hb5;clear hQ hb5 HB4 HO
        cases AO
        . go_wp2_with fail;go_ret;exact⟨by rw[HP.o];rfl,HB5.o⟩
        . go_wp2_with fail;go_ret;exact⟨by rw[HP.o];rfl,HB5.o⟩
      . go_wp2_with fail;go_ret;exact⟨by rw[HP.o];rfl,HB4.o⟩
  . have HP:Hid (Z=4):=HF.o (.inr h2);clear HR HZ HF HG HO;go_upto_region 2 with fail;rw[<- hW];clear hW;refine wp_region_quiet_below qQ qQ ?_;repeat (first|go_big_quiet_step (exact cF _ _) | quiet_step (exact cF _ _))
    refine wpQuiet_nil ?_;intro _ hw';obtain⟨⟨dq,osq⟩,Av⟩:=hw';subst Av;have HB3:Hid (Bq w (Go.Sort.grow (redrawn W dq) osq)):=HW.o.trans ((below_regrown W dq osq).mono HW.o.size);have x3:(Go.Sort.grow (redrawn W dq) osq).heap[w.heap.size+1]?=some (.cells #[.slice ag GL cg,.int .i64 ps,.slice ab OL cb,.bool rd,.bool ov] 64 (0,0)):=((below_regrown W dq osq).block _ hs).trans X2.o;clear cF k0 k1 k2 k3 k4 k5 k6 k7 l0 l2 HW X2 hs;generalize (Go.Sort.grow (redrawn W dq) osq)=w3 at *;have y0:=A8 x3 0;have y1:=A8 x3 1;have y2:=A8 x3 2;have y3:=A8 x3 3;have y4:=A8 x3 4;simp at y0 y1 y2 y3 y4;have hw3:w.heap.size+1<w3.heap.size:=(aSm x3).1;clear x3;go_wp2_with fail;go_ret;exact⟨by rw[HP.o];rfl,HB3.o⟩
 . have HP:Hid (Z=4):=HF.o (.inl h1);have h1':¬(GL:Int)=IL:=qO;clear HR HZ HF HG HO;go_upto_region 2 with fail;rw[<- hW];clear hW;refine wp_region_quiet_below qQ qQ ?_;repeat (first|go_big_quiet_step (exact cF _ _) | quiet_step (exact cF _ _))
   refine wpQuiet_nil ?_;intro _ hw';obtain⟨⟨dq,osq⟩,Av⟩:=hw';subst Av;have HB3:Hid (Bq w (Go.Sort.grow (redrawn W dq) osq)):=HW.o.trans ((below_regrown W dq osq).mono HW.o.size);have x3:(Go.Sort.grow (redrawn W dq) osq).heap[w.heap.size+1]?=some (.cells #[.slice ag GL cg,.int .i64 ps,.slice ab OL cb,.bool rd,.bool ov] 64 (0,0)):=((below_regrown W dq osq).block _ hs).trans X2.o;clear cF k0 k1 k2 k3 k4 k5 k6 k7 l0 l2 HW X2 hs;generalize (Go.Sort.grow (redrawn W dq) osq)=w3 at *;have y0:=A8 x3 0;have y1:=A8 x3 1;have y2:=A8 x3 2;have y3:=A8 x3 3;have y4:=A8 x3 4;simp at y0 y1 y2 y3 y4;have hw3:w.heap.size+1<w3.heap.size:=(aSm x3).1;clear x3;go_wp2_with fail;go_ret;exact⟨by rw[HP.o];rfl,HB3.o⟩
end Go.Proofs.YtmejdflmcikkdaaGreatDoor
