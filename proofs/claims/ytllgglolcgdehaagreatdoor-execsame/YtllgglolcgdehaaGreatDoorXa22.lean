/- What the developers' made (of graphs) does, and more. -/
import Derived.Test.YtllgglolcgdehaaGreatDoorXa21
set_option maxRecDepth 100000
set_option maxHeartbeats 16000000
namespace Go.Proofs.YtllgglolcgdehaaGreatDoor
open Go.RowKit Go.Gs
set_option linter.unusedVariables false
theorem lists_in {W:World} {bx:Nat} {x0 x1 x2 x3 x4 x5 x6 x7:Value} (v:Value) (bss:List (List UInt8)) (hp:RList W v U bss) (hn:bss.length<=5) (hT:bss.flatten.length<=300000) (h8:Cells8 W bx x0 x1 x2 x3 x4 x5 x6 x7) :
 Calls Tryz.prog 151 #[v] W fun e w'=>∃r,e=.returned r/\Hid (RList w' r S (bss.map lines))/\Hid (Below W.heap.size W w')/\w'.cell? ⟨bx,0,none⟩=some x0/\w'.cell? ⟨bx,1,none⟩=some x1/\w'.cell? ⟨bx,2,none⟩=some x2/\w'.cell? ⟨bx,3,none⟩=some x3/\w'.cell? ⟨bx,4,none⟩=some x4/\w'.cell? ⟨bx,5,none⟩=some x5/\w'.cell? ⟨bx,6,none⟩=some x6/\w'.cell? ⟨bx,7,none⟩=some x7:=by
 refine (lists_is v bss W hp hn hT).mono ?_
 rintro e w' ⟨r,rfl,h1,h2⟩
 obtain⟨y0,y1,y2,y3,y4,y5,y6,y7⟩:=h8.kept h2
 exact⟨r,rfl,h1,h2,y0,y1,y2,y3,y4,y5,y6,y7⟩
theorem line_in_flat {bss:List (List UInt8)} {p:List (List UInt8)} (hp:p∈bss.map lines) {s:List UInt8} (hs:s∈p):s.length<=bss.flatten.length+1:=by
 obtain⟨b,hb,rfl⟩:=List.mem_map.1 hp
 have h1:=line_len hs
 have h2:=ended_lines b
 have h3:=flat_mem_le hb
 omega
theorem made_join (n:SNode) (ai ao:Option Addr) (ni ci cap N:Nat) (fs:List SFile) (v:Value) (ins:List (List UInt8)) (w:World) (hk:n.kind=4) (hj:jchk n.how n.c=0) (hcw:n.c.word.length<=9223372036854775807) (hv:RList w v U ins) (hn5:ins.length<=5) (hT:ins.flatten.length<=250000) (hE:KnownE w) :
 Calls Tryz.prog 95 #[nodeV n ai ni ci,.slice ao N cap,v] w fun e w'=>MadeEnd w (nodeMade n fs ins) e w':=by
 rw[made_four hk]
 have hfl:=flat_lines_count ins
 have hfe:=flat_lines_len ins
 have hml:=joined_len6 n.how n.c (jchk_chk hj) (ins.map lines) (by omega) (by simpa using hn5)
 have HJO:Hid _:=fun (W:World) (r:Value) (hr:RList W r S (ins.map lines)) (hE:KnownE W)=>jover_is n.how n.c hj r (ins.map lines) W hcw hr (by simpa using hn5) (by omega) (fun p hp s hs=>by have:=line_in_flat hp hs;omega) hE
 have HEE:Hid (KnownE w):=hE
 generalize joined n.how n.c (ins.map lines)=M at *
 unfold nodeV
 unfold Cmd.v at HJO
 rw[hk]
 generalize (⟨n.file.toArray⟩:ByteArray)=fx at *
 generalize (⟨n.c.word.toArray⟩:ByteArray)=wx0 at *
 generalize n.c.kind=ck at *
 generalize n.c.n=cn at *
 generalize n.how=hw at *
 generalize n.wide=wd at *
 have hbx:Below w.heap.size w (w.alloc (.cells #[.int .i64 4,.string fx,.int .i64 ck,.string wx0,.int .i64 cn,.int .i64 hw,.int .i64 wd,.slice ai ni ci] 73)).drew:=box_of.drew
 have HBX:Hid _:=hbx
 have h8:Cells8 (w.alloc (.cells #[.int .i64 4,.string fx,.int .i64 ck,.string wx0,.int .i64 cn,.int .i64 hw,.int .i64 wd,.slice ai ni ci] 73)).drew w.heap.size (.int .i64 4) (.string fx) (.int .i64 ck) (.string wx0) (.int .i64 cn) (.int .i64 hw) (.int .i64 wd) (.slice ai ni ci):=nbox_cells (Below.refl _ _).drew
 have HA:Hid _:=lists_in v ins (hv.below hbx) hn5 (by omega) h8
 clear hv hbx h8 hcw hE hj
 go_enter Tryz.func95,Tryz.ntmps95
 go_upto_region 14 with fail
 go_region_with (first
  | (go_at_call 151;refine Calls.mono HA.out ?_;rintro e w2 ⟨r2,rfl,O2,B2,y0,y1,y2,y3,y4,y5,y6,y7⟩)
  | (go_at_call 150;refine (HJO.out w2 r2 O2.out ((HEE.out.below HBX.out).below B2.out)).mono ?_;rintro e w3 ⟨r3,rfl,R3,B3⟩))
 all_goals
  have HB3:Hid (Below w.heap.size w w3):=HBX.out.trans ((B2.out.trans (B3.mono B2.out.size)).mono HBX.out.size)
  have HE:Hid _:=ended_reads r3 M w3 R3 (by omega)
  clear R3 B3 O2 B2 y0 y1 y2 y3 y4 y5 y6 y7 HA HJO
  go_wp2_with fail
  refine Calls.mono HE.out ?_
  rintro e w4 ⟨r4,rfl,ho4,hb4⟩
  have HB4:Hid (Below w.heap.size w w4):=HB3.out.trans (hb4.mono HB3.out.size)
  have HR4:Hid (Reads w4 r4 (ended M).length ((ended M).map U)):=Reads.of_owns ho4
  have HN4:Hid (NewV w.heap.size r4):=(newV_owns ho4).mono HB3.out.size
  obtain⟨a4,c4,rfl,_,_⟩:=HR4.out.shape
  obtain⟨l4,hl4⟩:∃l4,l4=(ended M).length:=⟨_,rfl⟩
  rw[<- hl4]
  clear ho4 hb4 HE
  go_wp2_with fail
  go_ret2
  subst hl4
  exact madeEnd_one HB4.out HR4.out HN4.out
theorem made_is (n:SNode) (ai ao:Option Addr) (ci cap:Nat) (fs:List SFile) (v:Value) (ins:List (List UInt8)) (w:World) (hchk:nodeChk n=0) (hfit:FitsN n) (hv:RList w v U ins) (hi:ins.length=n.ins.length) (hT:ins.flatten.length<=241200) (hf:RFiles w (.slice ao fs.length cap) fs) (hfc:fchk fs=0) (hE:KnownE w) :
 Calls Tryz.prog 95 #[nodeV n ai n.ins.length ci,.slice ao fs.length cap,v] w fun e w'=>MadeEnd w (nodeMade n fs ins) e w':=by
 obtain⟨h1,h2,_⟩:=node_kinds hchk
 obtain⟨r1,r2⟩:=right_ins hchk
 have one:n.ins.length=1 -> ∃b0,ins=[b0]:=by
  intro h
  rw[h] at hi
  match ins,hi with
  | [b0],_=>exact⟨b0,rfl⟩
 rcases used_kinds h1 with ⟨h3 | h3,_⟩ | ⟨h3,h4,h5⟩ | ⟨h3,h4⟩ | ⟨h3,h4⟩
 . exact made_source n ai ao _ ci cap fs v ins w h3 hv hf hfc
 . exact made_sink n ai ao _ ci cap fs v ins w h3 hv
 . obtain⟨b0,rfl⟩:=one (r2 (.inl h3))
   exact made_split n ai ao _ ci cap _ fs v b0 w h3 h4 h5 hv (by simp at hT;omega)
 . obtain⟨b0,rfl⟩:=one (r2 (.inr (.inl h3)))
   exact made_work n ai ao _ ci cap _ fs v b0 w h3 h4 hfit.2.1 hE.1 hv (by simp at hT;omega)
 . exact made_join n ai ao _ ci cap _ fs v ins w h3 h4 hfit.2.1 hv (by omega) (by omega) hE
theorem reads_far {w:World} {v:Value} {n:Nat} {xs:List Value} (h:Reads w v n xs) {a:Addr} (x:Value) (hne:∀q m c,v=.slice (some q) m c->q.block≠a.block):Reads (w.setCell a x) v n xs:=by
 obtain⟨h1,ao,cap,rfl,h2,h3,h4⟩:=h
 refine⟨h1,ao,cap,rfl,h2,h3,fun hn=>?_⟩
 obtain⟨b,off,rfl,hc⟩:=h4 hn
 refine⟨b,off,rfl,fun j u hu=>?_⟩
 rw[World.cell?_setCell_other (h:=fun e=>hne _ _ _ rfl (by rw[e]))]
 exact hc j u hu
theorem routs_step {w:World} {OB N:Nat} {outs:List (List (List UInt8))} (h:ROuts w OB N outs) (hk:outs.length<N) {u:Value} {o:List (List UInt8)} (hu:RList w u U o) (hne:∀q m c,u=.slice (some q) m c->q.block≠OB) :
 ROuts (w.setCell ⟨OB,outs.length,none⟩ u) OB N (outs++[o]):=by
 obtain⟨us,h1,h2,h3,h4,h5⟩:=h
 have hc:w.cell? ⟨OB,outs.length,none⟩=some (.slice none 0 0):=by
  rw[cell_of_row _ _ _ _ _ _ h1]
  simpa using h5 _ (Nat.le_refl _) hk
 have keep:∀{x:Value} {q:List (List UInt8)},RList w x U q->(∀a n c,x=.slice (some a) n c->a.block≠OB)->RList (w.setCell ⟨OB,outs.length,none⟩ u) x U q:=by
  rintro x q ⟨ys,g1,g2⟩ hx
  refine⟨ys,reads_far g1 u hx,fun j p hj=>?_⟩
  obtain⟨y,g3,g4⟩:=g2 j p hj
  exact⟨y,g3,g4.setCell hc u slice_not_UG⟩
 refine⟨us.set outs.length u,by rw[heap_setCell_same _ _ _ _ _ _ h1];simp,by simp[h2],by simp;omega,fun j q hj=>?_,fun j hj hjN=>?_⟩
 .
  by_cases e:j=outs.length
  . subst e
    rw[List.getElem?_append_right (Nat.le_refl _)] at hj
    simp at hj
    subst hj
    exact⟨u,List.getElem?_set_self (by omega),keep hu hne,hne⟩
  .
   have hjl:j<outs.length:=by
    have:=(gSm hj).1
    rw[List.length_append] at this
    simp at this
    omega
   rw[List.getElem?_append_left hjl] at hj
   obtain⟨x,g1,g2,g3⟩:=h4 j q hj
   exact⟨x,by rw[List.getElem?_set_ne (fun h=>e h.symm)];exact g1,keep g2 g3,g3⟩
 . rw[List.length_append] at hj
   simp at hj
   rw[List.getElem?_set_ne (by omega)]
   exact h5 j (by omega) hjN
theorem routs_cell {w:World} {OB N:Nat} {outs:List (List (List UInt8))} (h:ROuts w OB N outs) (hk:outs.length<N):w.cell? ⟨OB,outs.length,none⟩=some (.slice none 0 0)/\w.frozen? ⟨OB,outs.length,none⟩=false:=by
 obtain⟨us,h1,h2,h3,h4,h5⟩:=h
 refine⟨?_,frozen_of_row _ _ _ _ _ h1⟩
 rw[cell_of_row _ _ _ _ _ _ h1]
 simpa using h5 _ (Nat.le_refl _) hk
theorem madeEnd_outs {w w':World} {o:List (List UInt8)} {e:Ending} (h:MadeEnd w o e w'):∃ar cr,e=.returned (.tuple #[.slice ar o.length cr,.int .i64 0])/\RList w' (.slice ar o.length cr) U o/\(∀q m c,Value.slice ar o.length cr=.slice (some q) m c->w.heap.size<=q.block)/\Below w.heap.size w w':=by
 obtain⟨ar,cr,us,rfl,h1,h2,h3⟩:=h
 refine⟨ar,cr,rfl,⟨us,Reads.of_owns h1,fun j b hj=>by obtain⟨u,a1,a2,_⟩:=h2 j b hj;exact⟨u,a1,a2⟩⟩,fun q m c hq=>?_,h3⟩
 rcases h1.2 with ⟨e1,_⟩ | ⟨g,cap,cur,e1,hg,_⟩
 . rw[e1] at hq;injection hq with hq;cases hq
 .
  rw[e1] at hq
  injection hq with hq
  injection hq with hq
  rw[<- hq]
  exact hg
end Go.Proofs.YtllgglolcgdehaaGreatDoor
