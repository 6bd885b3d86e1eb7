/- What the developers' step does, and more. -/
import Derived.Test.YtllgglolcgdehaaGreatDoorQAb
import Derived.Orders
import Derived.Test.YtllgglolcgdehaaGreatDoorQa24
set_option maxRecDepth 100000
set_option maxHeartbeats 16000000
namespace Go.Proofs.YtllgglolcgdehaaGreatDoor
open Go.RowKit Go.Gs Go.Maps
set_option linter.unusedVariables false
variable {G:World->(Nat->Option Own)->Prop}
structure SmallM (M:SMach):Prop where
 got:∀p∈M.ps,p.got.flatten.length<=241192
 out:∀p∈M.ps,∀b∈p.out,b.length<=90000000
 sunk:M.sunk.length<=90000000
theorem aW1 (D r:Nat) (O:Nat->Option Own) (d:RD) (i:Int) (w:World) (h:RunM G w D r O d) (hS:Shape d.M) (Ad:∀n∈d.M.ns,M4 n) (hsm:SmallM d.M) (hE:∀W,Below D w W->t8 W) :
 Calls Tryz.prog 57 #[.pointer (some ⟨r,0,none⟩),.int .i64 i] w fun e w'=>e=.returned (.int .i64 (stepS d.M i).2)/\l6 G w' D r (stepS d.M i).1/\Below D w w':=by
 obtain⟨b0,b1,b2,b3,b4,b5,b6⟩:=O5 h.box.1;have hps0:0<d.M.ps.length:=by rw[hS.plen];exact hS.g.pos
 have Om:Hid (l6 G w D r d.M):=(show l6 G w D r d.M from ⟨O,d,h,rfl⟩);obtain⟨gP,cP,hvP,Dy,Fb⟩:∃g c,d.vP=.slice (some ⟨g,0,none⟩) d.M.ps.length c/\d.M.ps.length<=c/\c<=9223372036854775807:=by obtain⟨g,c,s,h1,h2,h3,_⟩:=h.procAt (gEl hps0);exact⟨g,c,h1,h2,h3⟩
 rw[hvP] at b3;by_cases Ds:i<0\/(d.M.ps.length:Int)<=i
 .
  have HR:Hid (stepS d.M i=(d.M,5)):=(show _=_ by unfold stepS;rw[if_pos Ds]);rw[HR.out];generalize d.M.ps.length=NP at *;clear h hS Ad hsm hE hvP b0 b1 b2 b4 b5 b6 HR;by_cases hneg:i<0
  . clear Ds;go_enter Tryz.func57,Tryz.ntmps57;go_wp2_with fail;go_ret;exact⟨rfl,Om.out,Below.refl _ _⟩
  . have hge:(NP:Int)<=i:=by omega
    clear Ds;go_enter Tryz.func57,Tryz.ntmps57;go_wp2_with fail;go_ret;exact⟨rfl,Om.out,Below.refl _ _⟩
 .
  obtain⟨k,rfl⟩:∃k:Nat,i=(k:Int):=Int.eq_ofNat_of_zero_le (by omega);have hkl:k<d.M.ps.length:=by omega
  obtain⟨p,hp⟩:∃p,d.M.ps[k]? = some p:=⟨_,gEl hkl⟩;obtain⟨n,hn⟩:∃n,d.M.ns[k]? = some n:=⟨_,gEl (by rw[<- hS.plen];exact hkl)⟩;have Au:stepS d.M (k:Int)=ay6 d.M k n p:=by unfold stepS;rw[if_neg Ds,Int.toNat_natCast];unfold I4;rw[hn,hp]
  rw[Au];have hF:=hS.proc k n p hn hp;obtain⟨gP2,cP2,s,Og,_,_,hgP,hOP,hs,p0,p1,p2,p3,p4,hfP,hGo,hOo,hgl,hol⟩:=h.procAt hp;rw[hvP] at Og;injection Og with e1 e2 e3;injection e1 with e1;injection e1 with e1;subst e1;have HH:=qH h;obtain⟨RES,Af⟩:=qE (ay6 d.M k n p);rw[<- Af];unfold ay6 at Af
  cases hov:p.ov with
  | true=>
   rw[if_pos hov] at Af
   have HR:=qH Af
   rw[hov] at p4
   generalize d.M.ps.length=NP at *
   clear h hS Ad hsm hE hvP b0 b1 b2 b4 b5 b6 Af Au hF Ds hn hp hs p0 p1 p2 p3 hfP hGo hOo hgl hol hOP e2 e3 hov hgP
   go_enter Tryz.func57,Tryz.ntmps57
   go_wp2_with fail
   go_ret
   rw[HR.out]
   exact⟨rfl,Om.out,Below.refl _ _⟩
  | false=>
   rw[if_neg (by simp[hov])] at Af
   rw[hov] at p4
   obtain⟨⟨ao,co,Le,Gl,Ek⟩,_⟩:=j8 hOo
   have hCF:=bC2 ao co p.out w (by have:=h.outs hp hs;rwa [Le] at this)
   rw[Le] at p2
   have HCF:Hid _:=hCF
   by_cases Dc:p.out.any (fun b=>!b.isEmpty)=true
   .
    rw[if_pos Dc] at Af
    rw[Dc] at HCF
    have HW:Hid (∀W,Bq w W->Calls Tryz.prog 118 #[.pointer (some ⟨r,0,none⟩),.int .i64 k] W fun e w'=>e=.returned (.int .i64 RES.2)/\l6 G w' D r RES.1/\Below D w w'):=(show ∀W,Bq w W->Calls Tryz.prog 118 #[.pointer (some ⟨r,0,none⟩),.int .i64 k] W fun e w'=>e=.returned (.int .i64 RES.2)/\l6 G w' D r RES.1/\Below D w w' from fun W hW=>by
     rw[Af]
     refine (bP9 D r O d k n p W (RMem.below h hW) hS hn hp).mono ?_
     rintro e w' ⟨h1,h2,h3⟩
     exact⟨h1,h2,(hW.mono h.le).trans h3⟩)
    generalize d.M.ps.length=NP at *
    generalize p.out.length=OL at *
    clear h hS Ad hsm hE hvP b0 b1 b2 b4 b5 b6 Af Au hF Ds hn hp hs p0 p1 p3 hfP hGo hOo hgl hol hOP e2 e3 hov hgP Le Gl Ek hCF Dc
    go_enter Tryz.func57,Tryz.ntmps57
    go_wp2_with fail
    refine Calls.mono HCF.out ?_
    rintro e w2 ⟨rfl,hb2⟩
    go_wp2_with fail
    refine Calls.mono (HW.out _ hb2) ?_
    rintro e w3 ⟨rfl,hb3⟩
    have HB3:Hid _:=hb3
    clear hb3
    go_wp2_with fail
    go_ret
    exact⟨rfl,HB3.out⟩
   .
    have Jy:p.out.any (fun b=>!b.isEmpty)=false:=by simpa using Dc
    rw[if_neg Dc] at Af
    rw[Jy] at HCF
    cases hrd:p.rd with
    | true=>
     rw[if_pos hrd] at Af
     rw[hrd] at p3
     have HW:Hid (∀W,Bq w W->Calls Tryz.prog 119 #[.pointer (some ⟨r,0,none⟩),.int .i64 k] W fun e w'=>e=.returned (.int .i64 RES.2)/\l6 G w' D r RES.1/\Below D w w'):=(show ∀W,Bq w W->Calls Tryz.prog 119 #[.pointer (some ⟨r,0,none⟩),.int .i64 k] W fun e w'=>e=.returned (.int .i64 RES.2)/\l6 G w' D r RES.1/\Below D w w' from fun W hW=>by
      rw[Af]
      refine (cr8 D r O d k n p W (RMem.below h hW) hS hn hp).mono ?_
      rintro e w' ⟨h1,h2,h3⟩
      exact⟨h1,h2,(hW.mono h.le).trans h3⟩)
     generalize d.M.ps.length=NP at *
     generalize p.out.length=OL at *
     clear h hS Ad hsm hE hvP b0 b1 b2 b4 b5 b6 Af Au hF Ds hn hp hs p0 p1 hfP hGo hOo hgl hol hOP e2 e3 hov hgP Le Gl Ek hCF Dc Jy hrd
     go_enter Tryz.func57,Tryz.ntmps57
     go_wp2_with fail
     refine Calls.mono HCF.out ?_
     rintro e w2 ⟨rfl,hb2⟩
     have p3':=(hb2.cell (bLt w _ p3)).trans p3
     go_wp2_with fail
     refine Calls.mono (HW.out _ hb2) ?_
     rintro e w3 ⟨rfl,hb3⟩
     have HB3:Hid _:=hb3
     clear hb3
     go_wp2_with fail
     go_ret
     exact⟨rfl,HB3.out⟩
    | false=>
     rw[if_neg (by simp[hrd])] at Af
     rw[hrd] at p3
     obtain⟨⟨ag,cg,hgv,Qm,Qn⟩,_⟩:=j8 hGo
     rw[hgv] at p0
     have hch:=hS.g.node n (mGt hn)
     by_cases Bd:p.got.isEmpty=true
     .
      have Tn:p.got=[]:=List.isEmpty_iff.1 Bd
      rw[if_pos Bd] at Af
      have hgl0:p.got.length=0:=by rw[Tn];rfl
      have HW:Hid (∀W,Bq w W->Calls Tryz.prog 120 #[.pointer (some ⟨r,0,none⟩),.int .i64 k] W fun e w'=>e=.returned (.int .i64 RES.2)/\l6 G w' D r RES.1/\Below D w w'):=(show ∀W,Bq w W->Calls Tryz.prog 120 #[.pointer (some ⟨r,0,none⟩),.int .i64 k] W fun e w'=>e=.returned (.int .i64 RES.2)/\l6 G w' D r RES.1/\Below D w w' from fun W hW=>by
       rw[Af]
       refine (aV9 D r O d k n p W (RMem.below h hW) hS.toG hn hp (Ad n (mGt hn)) (by have:=hsm.got p (mGt hp);omega) (fun b hb=>by have:=hsm.out p (mGt hp) b hb;omega) (fun V hV=>hE V ((hW.mono h.le).trans hV)) hF.olen hF.glen).mono ?_
       rintro e w' ⟨h1,h2,h3⟩
       exact⟨h1,h2,(hW.mono h.le).trans h3⟩)
      rw[hgl0] at p0
      generalize d.M.ps.length=NP at *
      generalize p.out.length=OL at *
      clear h hS Ad hsm hE hvP b0 b1 b2 b4 b5 b6 Af Au hF Ds hn hp hs p1 hfP hGo hOo hgl hol hOP e2 e3 hov hgP Le Gl Ek hCF Dc Jy hrd hch Bd Tn hgl0 hgv Qm Qn
      go_enter Tryz.func57,Tryz.ntmps57
      go_wp2_with fail
      refine Calls.mono HCF.out ?_
      rintro e w2 ⟨rfl,hb2⟩
      have p3':=(hb2.cell (bLt w _ p3)).trans p3
      have p0':=(hb2.cell (bLt w _ p0)).trans p0
      go_wp2_with fail
      refine Calls.mono (HW.out _ hb2) ?_
      rintro e w3 ⟨rfl,hb3⟩
      have HB3:Hid _:=hb3
      clear hb3
      go_wp2_with fail
      go_ret
      exact⟨rfl,HB3.out⟩
     .
      rw[if_neg Bd] at Af
      have hg0:n.ins.length≠0:=by
       intro e
       rw[<- hF.glen] at e
       exact Bd (List.isEmpty_iff.2 (List.length_eq_zero_iff.1 e))
      have Rw:=hF.pos2 hrd hg0
      have Gv:=hF.pos0
      have hglen:=hF.glen
      obtain⟨m,hm⟩:∃m:Nat,p.pos=(m:Int):=Int.eq_ofNat_of_zero_le Gv
      have hml:m<p.got.length:=by omega
      have hqx:b7 d.M.ns k+m<d.M.pipes.length:=by rw[hS.xlen];exact S9 hn (by omega)
      have HW:Hid (∀W,Bq w W->Calls Tryz.prog 121 #[.pointer (some ⟨r,0,none⟩),.int .i64 k] W fun e w'=>e=.returned (.int .i64 RES.2)/\l6 G w' D r RES.1/\Below D w w'):=(show ∀W,Bq w W->Calls Tryz.prog 121 #[.pointer (some ⟨r,0,none⟩),.int .i64 k] W fun e w'=>e=.returned (.int .i64 RES.2)/\l6 G w' D r RES.1/\Below D w w' from fun W hW=>by
       rw[Af,hm,Int.toNat_natCast]
       refine (ck1 D r O d k (b7 d.M.ns k+m) m n p _ _ W (RMem.below h hW) hS hn hp hm (gEl hml) rfl (gEl hqx) (Ad n (mGt hn)) (hsm.got p (mGt hp)) (hsm.out p (mGt hp)) hsm.sunk (fun V hV=>hE V ((hW.mono h.le).trans hV))).mono ?_
       rintro e w' ⟨h1,h2,h3⟩
       exact⟨h1,h2,(hW.mono h.le).trans h3⟩)
      have hGL:¬p.got.length=0:=by omega
      obtain⟨GL,hGLe⟩:=qE p.got.length
      rw[<- hGLe] at p0 hGL
      generalize d.M.ps.length=NP at *
      generalize p.out.length=OL at *
      clear h hS Ad hsm hE hvP b0 b1 b2 b4 b5 b6 Af Au hF Ds hn hp hs p1 hfP hGo hOo hgl hol hOP e2 e3 hov hgP Le Gl Ek hCF Dc Jy hrd hch Bd hgv Qm Qn hg0 Rw Gv hglen hm hml hqx hGLe
      go_enter Tryz.func57,Tryz.ntmps57
      go_wp2_with fail
      refine Calls.mono HCF.out ?_
      rintro e w2 ⟨rfl,hb2⟩
      have p3':=(hb2.cell (bLt w _ p3)).trans p3
      have p0':=(hb2.cell (bLt w _ p0)).trans p0
      go_wp2_with fail
      refine Calls.mono (HW.out _ hb2) ?_
      rintro e w3 ⟨rfl,hb3⟩
      have HB3:Hid _:=hb3
      clear hb3
      go_wp2_with fail
      go_ret
      exact⟨rfl,HB3.out⟩
end Go.Proofs.YtllgglolcgdehaaGreatDoor
namespace Go.Proofs.YtllgglolcgdehaaGreatDoor
open Go.RowKit Go.Gs Go.Maps
set_option linter.unusedVariables false
variable {G:World->(Nat->Option Own)->Prop}
theorem ck2 {n:SNode} (h:l7 n=0):nouts n<=5:=by
 unfold nouts;split
 . rcases I9 (G8 h).1 with ⟨h4 | h4,_⟩ | ⟨h4,_,h5⟩ | ⟨h4,_⟩ | ⟨h4,_⟩ <;> omega
 . split <;> omega
theorem by5:∀(l:List (List UInt8)) (c:Nat),(∀b∈l,b.length<=c)->l.flatten.length<=l.length*c
 | [],c,h=>by simp
 | a::r,c,h=>by
  have h1:=by5 r c (fun b hb=>h b (by simp[hb]))
  have h2:=h a (by simp)
  rw[List.flatten_cons,List.length_append,List.length_cons,Nat.succ_mul]
  omega
theorem aI9 {M:SMach} (hS:Shape M) (hg:∀p∈M.ps,(∀b∈p.got,b.length<=100000) /\ ∀b∈p.out,b.length<=100000) (hs:M.sunk.length<=100000):SmallC M:=by
 have h60:=hS.g.le60;have hf:=I0 hS.fok;refine⟨by omega,by omega,by have:=aW0 hS;omega,by rw[hS.plen];omega,hs,fun n hn=>?_,fun f hf2=>?_,fun x hx=>?_,fun p hp=>?_⟩
 . have:=(y9 (hS.g.node n hn)).1;omega
 . have:=(J2 hf.2 f hf2).2;omega
 . have h1:=V3 (hS.pipe x hx);have h2:=aO4 h1.2.1;have:=h1.2.2.1;omega
 . obtain⟨i,hi⟩:=List.getElem?_of_mem hp;obtain⟨n,hn⟩:∃n,M.ns[i]? = some n:=⟨_,gEl (by rw[<- hS.plen];exact (gSm hi).1)⟩;have hF:=hS.proc i n p hn hi;have hch:=hS.g.node n (mGt hn);have h1:=(y9 hch).1;have h2:=ck2 hch;have h3:=hF.glen;have h4:=hF.olen;exact⟨by omega,by omega,(hg p hp).1,(hg p hp).2⟩
theorem bf0 {M:SMach} (hS:Shape M) (hg:∀p∈M.ps,(∀b∈p.got,b.length<=48000) /\ ∀b∈p.out,b.length<=90000000) (hs:M.sunk.length<=90000000):SmallM M:=by refine⟨fun p hp=>?_,fun p hp=>(hg p hp).2,hs⟩;obtain⟨i,hi⟩:=List.getElem?_of_mem hp;obtain⟨n,hn⟩:∃n,M.ns[i]? = some n:=⟨_,gEl (by rw[<- hS.plen];exact (gSm hi).1)⟩;have hF:=hS.proc i n p hn hi;have h1:=(y9 (hS.g.node n (mGt hn))).1;have h2:=by5 p.got 48000 (hg p hp).1;have h3:p.got.length*48000<=5*48000:=Nat.mul_le_mul_right _ (by have:=hF.glen;omega);omega
def K8 (w:World) (v:Value) (M:SMach):Prop:=∃an af ax ap aS cn cf cx cp cs,v=machV an af ax ap aS M cn cf cx cp cs/\RMach w an af ax ap aS cn cf cx cp cs M
theorem rnil {w:World}:Reads w (.slice none 0 0) 0 []:=⟨rfl,none,0,rfl,Nat.le_refl _,by simp[maxLen],fun h=>absurd rfl h⟩
theorem K8.zero (w:World):K8 w (.agg #[.slice none 0 0,.slice none 0 0,.slice none 0 0,.slice none 0 0,.slice none 0 0]) H7:=
 ⟨none,none,none,none,none,0,0,0,0,0,rfl,⟨none,0,rfl,Nat.le_refl _,by simp[maxLen],fun h=>absurd rfl h⟩,⟨none,0,rfl,Nat.le_refl _,by simp[maxLen],fun h=>absurd rfl h⟩,⟨none,0,rfl,Nat.le_refl _,by simp[maxLen],fun h=>absurd rfl h⟩,⟨none,0,rfl,Nat.le_refl _,by simp[maxLen],fun h=>absurd rfl h⟩,rnil⟩
theorem RunM.mach {w:World} {D r:Nat} {O:Nat->Option Own} {d:RD} (h:RunM G w D r O d):∃an af ax ap aS cn cf cx cp cs,d.vN=.slice an d.M.ns.length cn/\d.vF=.slice af d.M.fs.length cf/\d.vX=.slice ax d.M.pipes.length cx/\d.vP=.slice ap d.M.ps.length cp/\sl d.M.sunk d.sS=.slice aS d.M.sunk.length cs/\RMach w an af ax ap aS cn cf cx cp cs d.M:=by
 obtain⟨hN,hF⟩:=RMem.nodes h;obtain⟨an,cn,eN,_,_⟩:=hN.shape;obtain⟨af,cf,eF,_,_⟩:=hF.shape;obtain⟨hX,hXo⟩:=h.part .pipes;obtain⟨hP,hPo⟩:=h.part .procs;obtain⟨⟨ax,cx,eX,hx1,hx2⟩,hxf⟩:=j8 hX;obtain⟨⟨ap,cp,eP,hp1,hp2⟩,hpf⟩:=j8 hP;refine⟨an,af,ax,ap,d.sS.1,cn,cf,cx,cp,d.sS.2,eN,eF,eX,eP,rfl,by rw[eN] at hN;exact hN,by rw[eF] at hF;exact hF,⟨ax,cx,rfl,hx1,hx2,fun hn=>?_⟩,⟨ap,cp,rfl,hp1,hp2,fun hn=>?_⟩,(h.part .sunk).reads⟩
 . obtain⟨g,c,e1,_⟩:=hxf hn;rw[eX] at e1;injection e1 with e1 _ _;refine⟨g,0,e1,fun j x hx=>?_⟩;obtain⟨g',c',s,hv,_,_,_,_,hs,hR,c0,c1,c2,c3,_⟩:=RMem.pipeAt h hx;rw[eX,e1] at hv;injection hv with hv _ _;injection hv with hv;injection hv with hv;subst hv;exact⟨s.1,s.2,by rw[Nat.zero_add];exact c0,by rw[Nat.zero_add];exact c1,by rw[Nat.zero_add];exact c2,by rw[Nat.zero_add];exact c3,hR.1⟩
 . obtain⟨g,c,e1,_⟩:=hpf hn;rw[eP] at e1;injection e1 with e1 _ _;refine⟨g,0,e1,fun j p hp=>?_⟩;obtain⟨g',c',s,hv,_,_,_,_,hs,c0,c1,c2,c3,c4,_,hGo,hOo,_,_⟩:=RMem.procAt h hp;rw[eP,e1] at hv;injection hv with hv _ _;injection hv with hv;injection hv with hv;subst hv;obtain⟨⟨ag,cg,eg,_,_⟩,_⟩:=j8 hGo;obtain⟨⟨ab,cb,eb,_,_⟩,_⟩:=j8 hOo;have hrg:=RMem.gots h hp hs;have hro:=RMem.outs h hp hs;rw[eg] at c0 hrg;rw[eb] at c2 hro;exact⟨ag,cg,ab,cb,by rw[Nat.zero_add];exact c0,by rw[Nat.zero_add];exact c1,by rw[Nat.zero_add];exact c2,by rw[Nat.zero_add];exact c3,by rw[Nat.zero_add];exact c4,hrg,hro⟩
theorem l6.mach {w:World} {D r:Nat} {M:SMach} (h:l6 G w D r M):∃an af ax ap aS cn cf cx cp cs vI vM,w.heap[r]? = some (.cells #[.slice an M.ns.length cn,.slice af M.fs.length cf,.slice ax M.pipes.length cx,.slice ap M.ps.length cp,.slice aS M.sunk.length cs,vI,vM] 111 (0,0))/\RMach w an af ax ap aS cn cf cx cp cs M:=by obtain⟨O,d,h1,rfl⟩:=h;obtain⟨an,af,ax,ap,aS,cn,cf,cx,cp,cs,e1,e2,e3,e4,e5,h2⟩:=RunM.mach h1;have h3:=h1.box.1;rw[e1,e2,e3,e4,e5] at h3;exact⟨an,af,ax,ap,aS,cn,cf,cx,cp,cs,_,_,h3,h2⟩
def ab7 (w:World) (x:Nat):Prop:=∀j u,w.cell? ⟨x,j,none⟩=some u -> ∃a n c,u=.slice a n c
theorem H3 {w w':World} {X:Nat->Prop} (hk:∀k,¬X k->w'.heap[k]? = w.heap[k]?) {b j:Nat} {u:Value} (hb:¬X b) (h:w.cell? ⟨b,j,none⟩=some u):w'.cell? ⟨b,j,none⟩=some u:=by have:=hk b hb;simp only[World.cell?] at h ⊢;rw[this];exact h
theorem by6 {w w':World} {X:Nat->Prop} {v:Value} {ps:List (Int × Int)} (h:E2 w v ps) (hx:∀x,X x->ab7 w x) (hk:∀k,¬X k->w'.heap[k]? = w.heap[k]?):E2 w' v ps:=by
 obtain⟨ao,cap,rfl,h2,h3,h4⟩:=h;refine⟨ao,cap,rfl,h2,h3,fun hn=>?_⟩;obtain⟨b,off,rfl,hc⟩:=h4 hn;refine⟨b,off,rfl,fun j p hp=>?_⟩;obtain⟨c1,c2⟩:=hc j p hp;have hb:¬X b:=fun e=>by
  obtain⟨a,n,c,e⟩:=hx b e _ _ c1
  cases e
 exact⟨H3 hk hb c1,H3 hk hb c2⟩
theorem aM7 {w w':World} {X:Nat->Prop} {v:Value} {ns:List SNode} (h:A2 w v ns) (hx:∀x,X x->ab7 w x) (hk:∀k,¬X k->w'.heap[k]? = w.heap[k]?):A2 w' v ns:=by
 obtain⟨ao,cap,rfl,h2,h3,h4⟩:=h;refine⟨ao,cap,rfl,h2,h3,fun hn=>?_⟩;obtain⟨b,off,rfl,hc⟩:=h4 hn;refine⟨b,off,rfl,fun j n hj=>?_⟩;obtain⟨ai,ci,⟨a0,a1,a2,a3,a4,a5,a6,a7⟩,hp⟩:=hc j n hj;have hb:¬X b:=fun e=>by
  obtain⟨a,n,c,e⟩:=hx b e _ _ a0
  cases e
 exact⟨ai,ci,⟨H3 hk hb a0,H3 hk hb a1,H3 hk hb a2,H3 hk hb a3,H3 hk hb a4,H3 hk hb a5,H3 hk hb a6,H3 hk hb a7⟩,by6 hp hx hk⟩
theorem by7 {w w':World} {X:Nat->Prop} {v:Value} {bs:List UInt8} (h:Reads w v bs.length (bs.map U)) (hx:∀x,X x->ab7 w x) (hk:∀k,¬X k->w'.heap[k]? = w.heap[k]?):Reads w' v bs.length (bs.map U):=by
 obtain⟨h1,ao,cap,rfl,h2,h3,h4⟩:=h;refine⟨h1,ao,cap,rfl,h2,h3,fun hn=>?_⟩;obtain⟨b,off,rfl,hc⟩:=h4 hn;refine⟨b,off,rfl,fun j u hu=>?_⟩;have hb:¬X b:=fun e=>by
  obtain⟨a,n,c,e⟩:=hx b e _ _ (hc j u hu);rw[List.getElem?_map] at hu
  cases hq:bs[j]? with
  | none=>rw[hq] at hu;cases hu
  | some y=>
   rw[hq] at hu
   simp only[Option.map_some,Option.some.injEq] at hu
   rw[<- hu] at e
   cases e
 exact H3 hk hb (hc j u hu)
theorem aM8 {w w':World} {X:Nat->Prop} {v:Value} {fs:List SFile} (h:j9 w v fs) (hx:∀x,X x->ab7 w x) (hk:∀k,¬X k->w'.heap[k]? = w.heap[k]?):j9 w' v fs:=by
 obtain⟨ao,cap,rfl,h2,h3,h4⟩:=h;refine⟨ao,cap,rfl,h2,h3,fun hn=>?_⟩;obtain⟨b,off,rfl,hc⟩:=h4 hn;refine⟨b,off,rfl,fun j f hj=>?_⟩;obtain⟨u,a0,a1,a2⟩:=hc j f hj;have hb:¬X b:=fun e=>by
  obtain⟨a,n,c,e⟩:=hx b e _ _ a0
  cases e
 exact⟨u,H3 hk hb a0,H3 hk hb a1,by7 a2 hx hk⟩
theorem RMem.apart {w w':World} {D r:Nat} {O:Nat->Option Own} {A:World->(Nat->Option Own)->Prop} {d:RD} (h:RMem w D r O A d) {X:Nat->Prop} (hX:∀x,X x->x<D/\ab7 w x) (hsz:w'.heap.size=w.heap.size) (hk:∀k,¬X k->w'.heap[k]? = w.heap[k]?):RMem w' D r O A d:=by
 obtain⟨w0,b1,b2,b3,b4⟩:=h.base;have hle:=h.le;have hx0:∀x,X x->ab7 w0 x:=fun x hx j u hu=>by refine (hX x hx).2 j u ?_;have:=b2.block x (hX x hx).1;simp only[World.cell?] at hu ⊢;rw[this];exact hu
 have hk0:∀k,¬X k->(cutH w' D).heap[k]? = w0.heap[k]?:=fun k hkx=>by
  by_cases hkD:k<D
  . rw[aA5 (by omega) hkD,hk k hkx,b2.block k hkD]
  . rw[Array.getElem?_eq_none (by rw[am1 (by omega)];omega),Array.getElem?_eq_none (by omega)]
 refine⟨fun g o hg=>by rw[hsz];exact h.lo g o hg,⟨cutH w' D,am1 (by omega),aR4 (by omega),aM7 b3 hx0 hk0,aM8 b4 hx0 hk0⟩,h.xlen,h.plen,h.slen,h.aux,fun o=>?_⟩;exact (h.part o).keep h.aux (fun k hk2=>hk k (fun hx=>by have:=(h.lo k o hk2).1;have:=(hX k hx).1;omega)) (fun _ _ _=>rfl) (fun k o2 hk2=>(h.lo k o2 hk2).2) (fun _ _=>rfl)
theorem RunM.machV {w:World} {D r:Nat} {O:Nat->Option Own} {d:RD} (h:RunM G w D r O d) {an af ax ap aS:Option Addr} {cn cf cx cp cs:Nat} (e1:d.vN=.slice an d.M.ns.length cn) (e2:d.vF=.slice af d.M.fs.length cf) (e3:d.vX=.slice ax d.M.pipes.length cx) (e4:d.vP=.slice ap d.M.ps.length cp) (e5:sl d.M.sunk d.sS=.slice aS d.M.sunk.length cs):RMach w an af ax ap aS cn cf cx cp cs d.M:=by obtain⟨an',af',ax',ap',aS',cn',cf',cx',cp',cs',f1,f2,f3,f4,f5,h2⟩:=RunM.mach h;rw[e1] at f1;rw[e2] at f2;rw[e3] at f3;rw[e4] at f4;rw[e5] at f5;injection f1 with f1 _ g1;injection f2 with f2 _ g2;injection f3 with f3 _ g3;injection f4 with f4 _ g4;injection f5 with f5 _ g5;subst f1 f2 f3 f4 f5 g1 g2 g3 g4 g5;exact h2
theorem l6.machX {w:World} {D r:Nat} {M:SMach} (h:l6 G w D r M):D<=r /\ ∃an af ax ap aS cn cf cx cp cs vI vM,w.heap[r]? = some (.cells #[.slice an M.ns.length cn,.slice af M.fs.length cf,.slice ax M.pipes.length cx,.slice ap M.ps.length cp,.slice aS M.sunk.length cs,vI,vM] 111 (0,0))/\(∀(X:Nat->Prop) (w':World),(∀x,X x->x<D/\ab7 w x)->w'.heap.size=w.heap.size->(∀k,¬X k->w'.heap[k]? = w.heap[k]?)->RMach w' an af ax ap aS cn cf cx cp cs M):=by obtain⟨O,d,h1,rfl⟩:=h;obtain⟨an,af,ax,ap,aS,cn,cf,cx,cp,cs,e1,e2,e3,e4,e5,h2⟩:=RunM.mach h1;have h3:=h1.box.1;rw[e1,e2,e3,e4,e5] at h3;exact⟨(h1.lo _ _ h1.box.2).1,an,af,ax,ap,aS,cn,cf,cx,cp,cs,_,_,h3,fun X w' hX hsz hk=>RunM.machV (RMem.apart h1 hX hsz hk) e1 e2 e3 e4 e5⟩
def ac0 (B:Nat) (w:World) (an af ax ap aS:Option Addr) (cn cf cx cp cs:Nat) (M:SMach):Prop:=∀(X:Nat->Prop) (w':World),(∀x,X x->x<B/\ab7 w x)->w'.heap.size=w.heap.size->(∀k,¬X k->w'.heap[k]? = w.heap[k]?)->RMach w' an af ax ap aS cn cf cx cp cs M
def J4 (B:Nat) (w:World) (v:Value) (M:SMach):Prop:=∃an af ax ap aS cn cf cx cp cs,v=machV an af ax ap aS M cn cf cx cp cs/\ac0 B w an af ax ap aS cn cf cx cp cs M
theorem ac0.self {B:Nat} {w:World} {an af ax ap aS:Option Addr} {cn cf cx cp cs:Nat} {M:SMach} (h:ac0 B w an af ax ap aS cn cf cx cp cs M):RMach w an af ax ap aS cn cf cx cp cs M:=h (fun _=>False) w (fun _ hx=>hx.elim) rfl (fun _ _=>rfl)
theorem J4.zero (B:Nat) (w:World):J4 B w (.agg #[.slice none 0 0,.slice none 0 0,.slice none 0 0,.slice none 0 0,.slice none 0 0]) H7:=by refine⟨none,none,none,none,none,0,0,0,0,0,rfl,fun X w' _ _ _=>?_⟩;obtain⟨an,af,ax,ap,aS,cn,cf,cx,cp,cs,e,h1⟩:=K8.zero w';unfold machV at e;simp at e;obtain⟨⟨rfl,_,rfl⟩,⟨rfl,_,rfl⟩,⟨rfl,_,rfl⟩,⟨rfl,_,rfl⟩,rfl,_,rfl⟩:=e;exact h1
theorem ap8 {w3 wf:World} {B D bm:Nat} {M:SMach} {an af ax ap aS:Option Addr} {cn cf cx cp cs:Nat} (hRM:ac0 D w3 an af ax ap aS cn cf cx cp cs M) (hbm:bm<D) (hon:ab7 w3 bm) (hB:B<=bm) (hs:wf.heap.size=w3.heap.size) (hk:∀k,k≠bm->wf.heap[k]? = w3.heap[k]?):ac0 B wf an af ax ap aS cn cf cx cp cs M:=by
 intro X w' hX hsz hk2;refine hRM (fun k=>X k\/k=bm) w' (fun x hx=>?_) (hsz.trans hs) (fun k hkx=>(hk2 k (fun h=>hkx (.inl h))).trans (hk k (fun h=>hkx (.inr h))));rcases hx with hx | hx
 . obtain⟨h1,h2⟩:=hX x hx;refine⟨by omega,fun j u hu=>h2 j u ?_⟩;have:=hk x (by omega);simp only[World.cell?] at hu ⊢;rw[this];exact hu
 . rw[hx];exact⟨hbm,hon⟩
theorem bm1 {w:World} {bm:Nat} {a b c d e:Value} (h:BX w bm a b c d e):ab7 w (bm+1):=by
 intro j u hu;rw[cell_of_row _ _ _ _ _ _ h.2] at hu;have:j=0\/j=1\/j=2\/j=3\/j=4\/5<=j:=by omega
 rcases this with rfl | rfl | rfl | rfl | rfl | hj;all_goals first | (simp at hu;exact⟨_,_,_,hu.symm⟩) | (rw[Array.getElem?_eq_none (by simpa using hj)] at hu;cases hu)
theorem aB3 (an af ax ap aS:Option Addr) (cn cf cx cp cs:Nat) (M:SMach) (w:World) (hM:RMach w an af ax ap aS cn cf cx cp cs M) (Ad:FitsM M) :
 Calls Tryz.prog 18 #[machV an af ax ap aS M cn cf cx cp cs] w fun e w'=>e=.returned (.int .i64 (mchk M))/\Bq w w':=
 bU1 an af ax ap aS cn cf cx cp cs M w hM Ad (fun W hW=>aI7 M.ns an cn W (hM.nodes.below hW) Ad.nodes) (fun W hW=>aa9 af cf M.fs W (hM.files.below hW) Ad.files)
end Go.Proofs.YtllgglolcgdehaaGreatDoor
namespace Go.Proofs.YtllgglolcgdehaaGreatDoor
open Go.RowKit Go.Gs Go.Maps
set_option linter.unusedVariables false
variable {G:World->(Nat->Option Own)->Prop}
def bm2 (F:Nat):Prop:=∀(a:Option Addr) (n c:Nat) (pos:Int) (a':Option Addr) (n' c':Nat) (rd o:Bool) (w:World),Calls Tryz.prog F #[.agg #[.slice a n c,.int .i64 pos,.slice a' n' c',.bool rd,.bool o]] w fun e w'=>e=.returned (.bool (!o))/\Bq w w'
theorem ck3:bm2 139:=by intro a n c pos a' n' c' rd o w;go_enter Tryz.func139,Tryz.ntmps139;go_wp2_with fail;go_ret;exact⟨rfl,boxE⟩
theorem bX0 (F:Nat) (hF:bm2 F) (hE:∀args w,(callFunc F args).run Tryz.prog w=.ok (.enter F args) w) (al:Option Addr) (cl:Nat) (ps:List SProc) (w:World) (hl:Q8 w (.slice al ps.length cl) ps) :
 Calls Tryz.prog 153 #[.slice al ps.length cl,.func (.func F) #[] #[]] w fun e w'=>∃i:Int,e=.returned (.int .i64 i)/\((ps.all (fun p=>p.ov)=false->0<=i)/\(0<=i->ps.all (fun p=>p.ov)=false))/\Bq w w':=by
 have hle:=af8 hl;have HL:=qH hl;have HF:=qH hF;obtain⟨M,hM⟩:=qE ps.length;have HM:=qH hM;rw[<- hM] at HL hle ⊢;clear hl hF hM;go_enter Tryz.func153,Tryz.ntmps153;go_wp2_with fail;go_loopw [8] (fun i wr=>∃k:Nat,k<=M/\i=.int .i64 k/\Hid (Bq w wr)/\Hid (∀p∈ps.take k,p.ov=true)) (fun i _=>M-(intOf i).toNat)
 case atStart=>exact⟨0,Nat.zero_le _,rfl,Below.refl _ _,(show ∀p∈ps.take 0,p.ov=true by simp)⟩
 case round=>
  obtain⟨k,hk,rfl,Aa,hno⟩:=hrel;by_cases hlt:k<M
  .
   obtain⟨p,hp⟩:∃p,ps[k]? = some p:=⟨_,gEl (by have:=HM.out;omega)⟩;obtain⟨b,off,ag,cg,ab,cb,rfl,c0,c1,c2,c3,c4,_,_⟩:=(Q8.below HL.out Aa.out).at hp;have HC:Hid _:=HF.out ag p.got.length cg p.pos ab p.out.length cb p.rd p.ov wr
   have HD2:Hid (p.ov=false->ps.all (fun p=>p.ov)=false):=(show p.ov=false->_ from fun h=>by
    rw[List.all_eq_false]
    exact⟨p,mGt hp,by simp[h]⟩)
   have HD3:Hid (p.ov=true -> ∀q∈ps.take (k+1),q.ov=true):=(show p.ov=true -> ∀q∈ps.take (k+1),q.ov=true from fun h q hq=>by
    rw[List.take_add_one,hp] at hq
    rcases List.mem_append.1 hq with hq | hq
    . exact hno.out q hq
    . simp at hq
      rw[hq]
      exact h)
   generalize p.got.length=n1 at *;generalize p.out.length=n2 at *;generalize p.pos=n3 at *;generalize p.rd=n4 at *;generalize p.ov=n5 at *;clear hp;go_wp2_with fail;refine Calls.mono HC.out ?_;rintro e w3 ⟨rfl,hb3⟩;have HB3:Hid (Bq w w3):=Aa.out.trans (hb3.mono Aa.out.size);clear hb3 HC c0 c1 c2 c3 c4
   cases n5 with
   | false=>
    go_wp2_with fail
    go_ret
    exact⟨_,rfl,⟨fun _=>by omega,fun _=>HD2.out trivial⟩,HB3.out⟩
   | true=>
    go_wp2_with fail
    go_roundw
    case rel=>exact⟨k+1,by omega,by go_num,HB3,HD3.out trivial⟩
    case measure=>simp[intOf];omega
  .
   have HN:Hid (ps.all (fun p=>p.ov)=true):=(show _=_ by
    rw[List.all_eq_true]
    intro p hp
    exact hno.out p (by rw[List.take_of_length_le (by have:=HM.out;omega)];exact hp))
   clear hno;go_wp2_with fail;go_ret;exact⟨_,rfl,⟨fun e=>(by rw[HN.out] at e;cases e),fun e=>absurd e (by omega)⟩,Aa.out⟩
theorem bm3 (F:Nat) (hF:bm2 F) (hE:∀args w,(callFunc F args).run Tryz.prog w=.ok (.enter F args) w) (al:Option Addr) (cl:Nat) (ps:List SProc) (w:World) (hl:Q8 w (.slice al ps.length cl) ps) :
 Calls Tryz.prog 96 #[.slice al ps.length cl,.func (.func F) #[] #[]] w fun e w'=>e=.returned (.bool (!ps.all (fun p=>p.ov)))/\Bq w w':=by
 have HI:Hid _:=bX0 F hF hE al cl ps w hl;generalize ps.all (fun p=>p.ov)=A at *;generalize ps.length=N at *;clear hF hE hl;go_enter Tryz.func96,Tryz.ntmps96;go_wp2_with fail;refine Calls.mono HI.out ?_;rintro e w1 ⟨i,rfl,hi,hb⟩;have HB:=qH hb
 have HI2:Hid (decide (0<=i) = !A):=(show _=_ by
  cases hA:A with
  | true=>
   rw[decide_eq_false (fun h=>by have:=hi.2 h;rw[hA] at this;cases this)]
   rfl
  | false=>
   rw[decide_eq_true (hi.1 hA)]
   rfl)
 clear hi hb HI;by_cases h:0<=i
 . go_wp2_with fail;go_ret;exact⟨by rw[<- HI2.out];first | rfl | simp[h],HB.out⟩
 . go_wp2_with fail;go_ret;exact⟨by rw[<- HI2.out];first | rfl | simp[h],HB.out⟩
theorem ck4 (D r:Nat) (M:SMach) (w:World) (h:l6 G w D r M):Calls Tryz.prog 87 #[.pointer (some ⟨r,0,none⟩)] w fun e w'=>e=.returned (.bool (overS M))/\Bq w w':=by
 obtain⟨an,af,ax,ap,aS,cn,cf,cx,cp,cs,vI,vM,Bc,hRM⟩:=l6.mach h;have HC:Hid _:=bm3 _ ck3 (enters_of Tryz.func139 (by kernel_rfl) rfl) ap cp M.ps w hRM.procs;obtain⟨b0,b1,b2,b3,b4,b5,b6⟩:=O5 Bc;have e1:overS M=M.ps.all (fun p=>p.ov):=rfl;rw[e1];generalize M.ps.all (fun p=>p.ov)=A at *;generalize M.ps.length=NP at *;clear h Bc hRM b0 b1 b2 b4 b5 b6 e1;go_enter Tryz.func87,Tryz.ntmps87;go_wp2_with fail;refine Calls.mono HC.out ?_;rintro e w1 ⟨rfl,hb⟩;have HB:=qH hb;clear hb HC
 cases A
 all_goals
  go_wp2_with fail
  go_ret
  exact⟨rfl,HB.out⟩
structure InvM (ns:List SNode) (fs:List SFile) (I:SMach->Prop):Prop where
 shape:∀M,I M->Shape M
 small:∀M,I M->SmallM M
 nodes:∀M,I M->M.ns=ns/\M.fs=fs
 step:∀M a,I M->I (I4 M a).1
theorem InvM.to {ns:List SNode} {fs:List SFile} {I:SMach->Prop} (h:InvM ns fs I) {M:SMach} (hM:I M):∀k,I (roundTo M k).1
 | 0=>hM
 | k+1=>h.step _ _ (h.to hM k)
theorem bX1 (ns:List SNode) (fs:List SFile) (I:SMach->Prop) (hI:InvM ns fs I) (Ad:∀n∈ns,M4 n) (D r:Nat) (M:SMach) (w:World) (h:l6 G w D r M) (hM:I M) (hE:∀W,Below D w W->t8 W) :
 Calls Tryz.prog 88 #[.pointer (some ⟨r,0,none⟩)] w fun e w'=>e=.returned (.bool (ab3 M).2)/\l6 G w' D r (ab3 M).1/\Below D w w':=by
 have Jw:Hid (∀(k:Nat) (W:World),k<M.ps.length->l6 G W D r (roundTo M k).1->Below D w W->Calls Tryz.prog 57 #[.pointer (some ⟨r,0,none⟩),.int .i64 k] W fun e w'=>e=.returned (.int .i64 (I4 (roundTo M k).1 k).2)/\l6 G w' D r (I4 (roundTo M k).1 k).1/\Below D W w'):=(show ∀(k:Nat) (W:World),_ from fun k W hk hR hW=>by
  have hIk:=hI.to hM k
  have hSk:=hI.shape _ hIk
  have hpl:(roundTo M k).1.ps.length=M.ps.length:=by rw[hSk.plen,(hI.nodes _ hIk).1,<- (hI.nodes _ hM).1,(hI.shape _ hM).plen]
  obtain⟨O,d,hR1,hd⟩:=hR
  have:=aW1 D r O d (k:Int) W hR1 (by rw[hd];exact hSk) (by rw[hd,(hI.nodes _ hIk).1];exact Ad) (by rw[hd];exact hI.small _ hIk) (fun V hV=>hE V (hW.trans hV))
  rw[hd] at this
  have e1:stepS (roundTo M k).1 (k:Int)=I4 (roundTo M k).1 k:=by
   unfold stepS
   rw[if_neg (by omega),Int.toNat_natCast]
  rw[e1] at this
  exact this)
 obtain⟨an,af,ax,ap,aS,cn,cf,cx,cp,cs,vI,vM,Bc,hRM⟩:=l6.mach h;obtain⟨b0,b1,b2,b3,b4,b5,b6⟩:=O5 Bc;have HH:=qH h;unfold ab3;obtain⟨NP,hNP⟩:=qE M.ps.length;rw[<- hNP] at Jw b3 ⊢;have HNB:Hid (NP<=100):=(show _<=_ by have:=(hI.shape _ hM).plen;have:=(hI.shape _ hM).g.le60;omega);have hnp:=HNB.out;clear h hM hE hI Ad Bc hRM hNP b0 b1 b2 b4 b5 b6;go_enter Tryz.func88,Tryz.ntmps88;go_wp2_with fail;clear b3;go_loopw [3,11] (fun z3 z wr=>∃k:Nat,k<=NP/\z3=.bool (roundTo M k).2/\z=.int .i64 k/\Hid (l6 G wr D r (roundTo M k).1)/\Hid (Below D w wr)) (fun _ z _=>NP-(intOf z).toNat)
 case atStart=>exact⟨0,Nat.zero_le _,rfl,rfl,HH,Below.refl _ _⟩
 case round=>
  obtain⟨k,hk,rfl,rfl,hR,Aa⟩:=hrel;by_cases hlt:k<NP
  .
   have HC:Hid _:=Jw.out k wr hlt hR.out Aa.out;obtain⟨B,hB⟩:=qE ((roundTo M k).2);obtain⟨E,hE⟩:=qE ((I4 (roundTo M k).1 k).2);have HE2:Hid ((roundTo M (k+1)).2=(B || decide (E=0))/\(roundTo M (k+1)).1=(I4 (roundTo M k).1 k).1):=⟨by rw[hB,hE];rfl,rfl⟩;rw[<- hE] at HC;rw[<- hB];clear hR hB hE;go_wp2_with fail;refine Calls.mono HC.out ?_;rintro e w3 ⟨rfl,hR3,hb3⟩;have HR3:Hid (l6 G w3 D r (roundTo M (k+1)).1):=(show l6 G _ _ _ _ by rw[HE2.out.2];exact hR3);have HB3:Hid (Below D w w3):=Aa.out.trans hb3;clear hR3 hb3 HC;by_cases he:E=0
   . have HQ:Hid ((roundTo M (k+1)).2=true):=(show _=_ by rw[HE2.out.1,he];simp);go_wp2_with fail;go_roundw
     case rel=>exact⟨k+1,by omega,by rw[HQ.out],by go_num,HR3,HB3⟩
     case measure=>simp[intOf];omega
   . have HQ:Hid ((roundTo M (k+1)).2=B):=(show _=_ by rw[HE2.out.1,decide_eq_false he,Bool.or_false]);go_wp2_with fail;go_roundw
     case rel=>exact⟨k+1,by omega,by rw[HQ.out],by go_num,HR3,HB3⟩
     case measure=>simp[intOf];omega
  . have e:k=NP:=by omega
    subst e;go_wp2_with fail;go_ret;exact⟨rfl,hR.out,Aa.out⟩
end Go.Proofs.YtllgglolcgdehaaGreatDoor
namespace Go.Proofs.YtllgglolcgdehaaGreatDoor
open Go.RowKit Go.Gs Go.Maps
set_option linter.unusedVariables false
theorem ck6 (P:Nat->World->Prop):∃f:World->Nat,∀wr k,P k wr->P (f wr) wr/\f wr<=k:=by
 have h1:∀wr,∃n,∀k,P k wr->P n wr/\n<=k:=by
  intro wr;by_cases h:∃k,P k wr
  .
   obtain⟨k,hk⟩:=h
   induction k using Nat.strongRecOn with
   | ind k ih=>
    by_cases h2:∃j,j<k/\P j wr
    . obtain⟨j,hj,hp⟩:=h2
      exact ih j hj hp
    . refine⟨k,fun q hq=>⟨hk,?_⟩⟩
      by_cases h3:k<=q
      . exact h3
      . exact absurd ⟨q,by omega,hq⟩ h2
  . exact⟨0,fun k hk=>absurd ⟨k,hk⟩ h⟩
 exact⟨fun wr=>Classical.choose (h1 wr),fun wr=>Classical.choose_spec (h1 wr)⟩
theorem l6.below {w w':World} {D r:Nat} {M:SMach} (h:l6 NoG w D r M) (hb:Bq w w'):l6 NoG w' D r M:=by obtain⟨O,d,h1,h2⟩:=h;exact⟨O,d,RMem.below h1 hb,h2⟩
def finR (M:SMach) (res:SMach × Int):SMach × Int:=if mchk M≠0 then (H7,mchk M) else res
theorem ap9 (an af ax ap aS:Option Addr) (cn cf cx cp cs:Nat) (M:SMach) (w:World) (h:RMach w an af ax ap aS cn cf cx cp cs M) (Ad:FitsM M) (hE:∀W,Bq w W->t8 W)
 (I:SMach->Prop) (hI:mchk M=0->InvM M.ns M.fs I) (hM:mchk M=0->I M) (k0:Nat) (res:SMach × Int) (Eu:mchk M=0->Fins k0 M res) :
 Calls Tryz.prog 25 #[machV an af ax ap aS M cn cf cx cp cs] w fun e w'=>∃v,e=.returned (.tuple #[v,.int .i64 (finR M res).2])/\J4 w.heap.size w' v (finR M res).1/\Bq w w':=by
 have HCK:Hid (∀W,Bq w W->Calls Tryz.prog 18 #[machV an af ax ap aS M cn cf cx cp cs] W fun e w'=>e=.returned (.int .i64 (mchk M))/\Bq W w'):=(show ∀W,_ from fun W hW=>aB3 an af ax ap aS cn cf cx cp cs M W (h.below hW) Ad)
 have HST:Hid (mchk M=0 -> ∀W,Bq w W->Calls Tryz.prog 56 #[machV an af ax ap aS M cn cf cx cp cs] W fun e w'=>∃D r,e=.returned (.pointer (some ⟨r,0,none⟩))/\l6 NoG w' D r M/\W.heap.size<=D/\Bq W w'):=(show mchk M=0 -> ∀W,_ from fun h0 W hW=>by
  obtain⟨q1,q2,q3⟩:=al9 h0
  exact aB2 an af ax ap aS cn cf cx cp cs M W (h.below hW) (aI9 q1 (fun p hp=>⟨fun b hb=>by have:=(q2 p hp).1 b hb;omega,fun b hb=>by have:=(q2 p hp).2 b hb;omega⟩) (by omega)) q1 Ad.nodes)
 have HRD:Hid (mchk M=0 -> ∀(D r:Nat) (M':SMach) (W:World),l6 NoG W D r M'->I M'->w.heap.size<=D->Bq w W->Calls Tryz.prog 88 #[.pointer (some ⟨r,0,none⟩)] W fun e w'=>e=.returned (.bool (ab3 M').2)/\l6 NoG w' D r (ab3 M').1/\Below D W w'):=(show mchk M=0 -> ∀(D r:Nat) (M':SMach) (W:World),_ from fun h0 D r M' W hR hI' hD hW=>bX1 M.ns M.fs I (hI h0) Ad.nodes D r M' W hR hI' (fun V hV=>hE V (hW.trans (hV.mono hD))));have HTO:Hid (mchk M=0 -> ∀M',I M'->I (ab3 M').1):=(show mchk M=0 -> ∀M',_ from fun h0 M' hM'=>(hI h0).to hM' _);have HI0:Hid (mchk M=0->I M/\Fins k0 M res):=(show mchk M=0->_ from fun h0=>⟨hM h0,Eu h0⟩);unfold machV at HCK HST ⊢;obtain⟨RES,Af⟩:=qE (finR M res);rw[<- Af];unfold finR at Af;generalize M.ns.length=NN at *;generalize M.fs.length=NF at *;generalize M.pipes.length=NX at *;generalize M.ps.length=NP at *;generalize M.sunk.length=NS at *
 clear h Ad hE hI hM Eu;by_cases h0:mchk M=0
 .
  have Ia:Hid _:=HST.out h0;have HRD2:Hid _:=HRD.out h0;have Lh:Hid _:=HTO.out h0;have HI2:Hid _:=HI0.out h0;rw[if_neg (by simpa using h0)] at Af;subst Af;rw[h0] at HCK;clear HST HRD HTO HI0 h0;go_enter Tryz.func25,Tryz.ntmps25;go_wp2_with fail;obtain⟨W0,hW0⟩:=qE ((w.alloc (.cells #[.slice an NN cn,.slice af NF cf,.slice ax NX cx,.slice ap NP cp,.slice aS NS cs] 30)).alloc (.cells #[.slice none 0 0,.slice none 0 0,.slice none 0 0,.slice none 0 0,.slice none 0 0] 30));rw[<- hW0];have hB0:Bq w W0:=by rw[hW0];exact ((Below.refl _ w).alloc (Nat.le_refl _) _).alloc (by simp) _
  have hX0:BX W0 w.heap.size (.slice an NN cn) (.slice af NF cf) (.slice ax NX cx) (.slice ap NP cp) (.slice aS NS cs):=by rw[hW0];exact⟨heap_alloc2_old _ _ _,heap_alloc2_new _ _ _⟩
  refine Calls.mono (HCK.out W0 hB0) ?_;rintro e w1 ⟨rfl,hb1⟩;have hB1:Bq w w1:=hB0.trans (hb1.mono hB0.size);have hX1:=BX.below hX0 hb1;obtain⟨x0,x1,x2,x3,x4,_⟩:=j6 hX1.1;have HB1:=qH hB1;have HX1:=qH hX1;clear hW0 hB0 hX0 hb1 hB1 hX1 HCK;go_wp2_with fail;refine Calls.mono (Ia.out w1 HB1.out) ?_;rintro e w2 ⟨D,r,rfl,hR2,hD,hb2⟩;have HB2:Hid (Bq w w2):=HB1.out.trans (hb2.mono HB1.out.size);have HX2:Hid (BX w2 w.heap.size (.slice an NN cn) (.slice af NF cf) (.slice ax NX cx) (.slice ap NP cp) (.slice aS NS cs)):=BX.below HX1.out hb2;have HDX:Hid (w.heap.size+2<=D):=(show _<=_ by have:=BX.lt HX1.out;omega);obtain⟨f,hf⟩:=ck6 (fun k wr=>∃M',l6 NoG wr D r M'/\I M'/\Fins k M' RES);have HF:=qH hf;have HP2:Hid (∃k,∃M',l6 NoG w2 D r M'/\I M'/\Fins k M' RES):=(show ∃k,_ from ⟨k0,M,hR2,HI2.out.1,HI2.out.2⟩);clear hR2 hD hb2 Ia x0 x1 x2 x3 x4 HX1 hf HI2;go_upto_region 5 with fail
  go_loopw [14] (fun _ wr=>Hid (∃k,∃M',l6 NoG wr D r M'/\I M'/\Fins k M' RES)/\Hid (BX wr w.heap.size (.slice an NN cn) (.slice af NF cf) (.slice ax NX cx) (.slice ap NP cp) (.slice aS NS cs))/\Hid (Bq w wr)) (fun _ wr=>f wr)
  case atStart=>exact⟨HP2,HX2,HB2⟩
  case round=>
   obtain⟨hP,hX,hB⟩:=hrel;clear HP2 HX2 HB2;obtain⟨k,hk⟩:=hP.out;obtain⟨⟨M',hR,hI',hFin⟩,_⟩:=HF.out wr k hk;have HOV:Hid _:=ck4 D r M' wr hR;have HR:=qH hR;have HI':=qH hI';have Cb:=qH hFin;clear hP hk hR hI' hFin;go_wp2_with fail;refine Calls.mono HOV.out ?_;rintro e w3 ⟨rfl,hb3⟩;have hR3:=l6.below HR.out hb3;have hX3:=BX.below hX.out hb3;have hB3:Bq w w3:=hB.out.trans (hb3.mono hB.out.size);clear HOV hb3
   cases ho:overS M' with
   | true=>
    have Jd:RES=(M',0):=by
     have h1:=Cb.out
     cases hn:f wr with
     | zero=>
      rw[hn] at h1
      rcases h1 with ⟨_,h2⟩ | ⟨h2,_⟩
      . exact h2
      . rw[ho] at h2;cases h2
     | succ n=>
      rw[hn] at h1
      have:=h1.1
      rw[ho] at this
      cases this
    have Bw:=qH Jd
    obtain⟨hrD,bn,bf,bx,bp,bS,dn,df,dx,dp,ds,vI,vM,Bc,hRM⟩:=l6.machX hR3
    have HRM:Hid (∀(w':World),w'.heap.size=w3.heap.size->(∀k,k≠w.heap.size+1->w'.heap[k]? = w3.heap[k]?)->ac0 w.heap.size w' bn bf bx bp bS dn df dx dp ds M'):=(show ∀(w':World),_ from fun w' h1 h2=>ap8 hRM (by have:=HDX.out;omega) (bm1 hX3) (by omega) h1 h2)
    obtain⟨c0,c1,c2,c3,c4,_,_⟩:=O5 Bc
    have hrw:r≠w.heap.size+1:=by have:=HDX.out;omega
    have hrw':w.heap.size+1≠r:=by omega
    have HB3:=qH hB3
    obtain⟨y0,y1,y2,y3,y4,yf⟩:=j6 hX3.2
    have yf0:=yf 0
    have yf1:=yf 1
    have yf2:=yf 2
    have yf3:=yf 3
    have yf4:=yf 4
    generalize hn5:M'.ns.length=N5 at *
    generalize hf5:M'.fs.length=F5 at *
    generalize hx5:M'.pipes.length=X5 at *
    generalize hp5:M'.ps.length=P5 at *
    generalize hs5:M'.sunk.length=S5 at *
    clear Jd hR3 hX3 hB3 Bc hRM yf ho HF
    go_wp2_with fail
    (try simp only[Exit.inBlock,Exit.then])
    refine bodyPost_ret (v:=.tuple #[.agg #[.slice bn N5 dn,.slice bf F5 df,.slice bx X5 dx,.slice bp P5 dp,.slice bS S5 ds],.int .i64 0]) ?_ rfl ?_
    . rw[results_cell_tmp rfl]
      go_simp
    . rw[Bw.out]
      refine⟨.agg #[.slice bn N5 dn,.slice bf F5 df,.slice bx X5 dx,.slice bp P5 dp,.slice bS S5 ds],rfl,?_,?_⟩
      . exact⟨bn,bf,bx,bp,bS,dn,df,dx,dp,ds,by unfold machV;rw[hn5,hf5,hx5,hp5,hs5],HRM.out _ (by simp) (fun k hk=>by
         rw[Below.heap_setCell _ _ _ _ hk,Below.heap_setCell _ _ _ _ hk,Below.heap_setCell _ _ _ _ hk,Below.heap_setCell _ _ _ _ hk,Below.heap_setCell _ _ _ _ hk])⟩
      . repeat (first | refine Below.setCell ?_ (by simp) _ | exact HB3.out)
   | false=>
    have HRDx:Hid _:=HRD2.out D r M' w3 hR3 HI'.out (by have:=HDX.out;omega) hB3
    have HX3:=qH hX3
    have HB3:=qH hB3
    have HO:=qH ho
    clear hR3 hX3 hB3 ho
    go_wp2_with fail
    refine Calls.mono HRDx.out ?_
    rintro e w4 ⟨rfl,hR4,hb4⟩
    have hX4:BX w4 w.heap.size (.slice an NN cn) (.slice af NF cf) (.slice ax NX cx) (.slice ap NP cp) (.slice aS NS cs):=BX.keep HX3.out (fun k hk=>hb4.block k (by have:=HDX.out;omega))
    have HB4:Hid (Bq w w4):=HB3.out.trans (hb4.mono (by have:=HDX.out;omega))
    clear hb4 HRDx HX3
    cases hw:(ab3 M').2 with
    | false=>
     have Bw:Hid (RES=(H7,8)):=(show _=_ by
      have h1:=Cb.out
      cases hn:f wr with
      | zero=>
       rw[hn] at h1
       rcases h1 with ⟨h2,_⟩ | ⟨_,_,h2⟩
       . rw[HO.out] at h2;cases h2
       . exact h2
      | succ n=>
       rw[hn] at h1
       have:=h1.2.1
       rw[hw] at this
       cases this)
     obtain⟨y0,y1,y2,y3,y4,yf⟩:=j6 hX4.2
     have yf0:=yf 0
     have yf1:=yf 1
     have yf2:=yf 2
     have yf3:=yf 3
     have yf4:=yf 4
     clear hR4 hX4 hw yf HF
     go_wp2_with fail
     (try simp only[Exit.inBlock,Exit.then])
     refine bodyPost_ret (v:=.tuple #[.agg #[.slice none 0 0,.slice none 0 0,.slice none 0 0,.slice none 0 0,.slice none 0 0],.int .i64 8]) ?_ rfl ?_
     . rw[results_cell_tmp rfl]
       go_simp
     . rw[Bw.out]
       exact⟨_,rfl,J4.zero _ _,by repeat (first | refine Below.setCell ?_ (by simp) _ | exact HB4.out)⟩
    | true=>
     have On:∃n,f wr=n+1/\Fins n (ab3 M').1 RES:=by
      have h1:=Cb.out
      cases hn:f wr with
      | zero=>
       rw[hn] at h1
       rcases h1 with ⟨h2,_⟩ | ⟨_,h2,_⟩
       . rw[HO.out] at h2;cases h2
       . rw[hw] at h2;cases h2
      | succ n=>
       rw[hn] at h1
       exact⟨n,rfl,h1.2.2⟩
     have HP4:Hid (∃k,∃M',l6 NoG w4 D r M'/\I M'/\Fins k M' RES):=(show ∃k,_ from by
      obtain⟨n,_,h2⟩:=On
      exact⟨n,_,hR4,Lh.out M' HI'.out,h2⟩)
     have HLT:Hid (f w4<f wr):=(show _<_ by
      obtain⟨n,h1,h2⟩:=On
      have:=(HF.out w4 n ⟨_,hR4,Lh.out M' HI'.out,h2⟩).2
      omega)
     have HX4:=qH hX4
     clear On hR4 hX4 hw
     go_wp2_with fail
     go_roundw
     case rel=>exact⟨HP4,HX4,HB4⟩
     case measure=>exact HLT.out
 .
  obtain⟨K,hK⟩:=qE (mchk M);rw[<- hK] at HCK h0;rw[if_pos (by rw[<- hK];exact h0)] at Af;rw[<- hK] at Af;have Bw:=qH Af;clear HST HRD HTO HI0 Af hK;go_enter Tryz.func25,Tryz.ntmps25;go_wp2_with fail;obtain⟨W0,hW0⟩:=qE ((w.alloc (.cells #[.slice an NN cn,.slice af NF cf,.slice ax NX cx,.slice ap NP cp,.slice aS NS cs] 30)).alloc (.cells #[.slice none 0 0,.slice none 0 0,.slice none 0 0,.slice none 0 0,.slice none 0 0] 30));rw[<- hW0];have hB0:Bq w W0:=by rw[hW0];exact ((Below.refl _ w).alloc (Nat.le_refl _) _).alloc (by simp) _
  have hX0:BX W0 w.heap.size (.slice an NN cn) (.slice af NF cf) (.slice ax NX cx) (.slice ap NP cp) (.slice aS NS cs):=by rw[hW0];exact⟨heap_alloc2_old _ _ _,heap_alloc2_new _ _ _⟩
  refine Calls.mono (HCK.out W0 hB0) ?_;rintro e w1 ⟨rfl,hb1⟩;have HB1:Hid (Bq w w1):=hB0.trans (hb1.mono hB0.size);have hX1:=BX.below hX0 hb1;obtain⟨y0,y1,y2,y3,y4,yf⟩:=j6 hX1.2;have yf0:=yf 0;have yf1:=yf 1;have yf2:=yf 2;have yf3:=yf 3;have yf4:=yf 4;clear hW0 hB0 hX0 hb1 hX1 HCK yf;go_wp2_with fail;(try simp only[Exit.inBlock,Exit.then])
  refine bodyPost_ret (v:=.tuple #[.agg #[.slice none 0 0,.slice none 0 0,.slice none 0 0,.slice none 0 0,.slice none 0 0],.int .i64 K]) ?_ rfl ?_
  . rw[results_cell_tmp rfl];go_simp
  . rw[Bw.out];exact⟨_,rfl,J4.zero _ _,by repeat (first | refine Below.setCell ?_ (by simp) _ | exact HB1.out)⟩
theorem J6 {ns:List SNode} {fs:List SFile} {room:Int} {M:SMach} (h:Go.Gs.Reach ns fs room M):M.ns=ns/\M.fs=fs:=by obtain⟨C,E,h⟩:=h;exact⟨h.ens,h.efs⟩
theorem ac8 {ns : List SNode} {fs : List SFile} {room : Int} (hg : gchk ns = 0) (hf : fchk fs = 0) (hb : T0 ns fs) : InvM ns fs (Go.Gs.Reach ns fs room) :=
  ⟨fun M h => h.shape hg hf, fun M h => by
    obtain ⟨q1, q2, q3⟩ := al9 (h.chk hg hf hb)
    exact bf0 q1 (fun p hp => ⟨fun b hb => by have := (q2 p hp).1 b hb; omega, fun b hb => by have := (q2 p hp).2 b hb; omega⟩) (by omega),
   fun M h => J6 h, fun M a h => h.step (D7 hg) a⟩
theorem bX2 {M:SMach} (h:Shape M):∀p∈M.ps,(Lit.int .i64 p.pos).wf=true:=by
 intro p hp;obtain⟨i,hi⟩:=List.getElem?_of_mem hp;obtain⟨n,hn⟩:∃n,M.ns[i]? = some n:=⟨_,gEl (by rw[<- h.plen];exact (gSm hi).1)⟩;have hF:=h.proc i n p hn hi;have h1:=(y9 (h.g.node n (mGt hn))).1;have h2:=hF.pos0;have h3:=hF.pos1;have h4:p.pos<=5:=by omega
 have h5:∀z:Int,0<=z->z<=5->(Lit.int .i64 z).wf=true:=by
  intro z h0 h5;have:z=0\/z=1\/z=2\/z=3\/z=4\/z=5:=by omega
  rcases this with rfl | rfl | rfl | rfl | rfl | rfl <;> rfl
 exact h5 _ h2 h4
theorem U0 {ns:List SNode} {fs:List SFile} {room:Int} {M:SMach} (hg:gchk ns=0) (hf:fchk fs=0) (hfn:∀n∈ns,M4 n) (hff:∀f∈fs,M3 f) (h:Go.Gs.Reach ns fs room M):FitsM M:=by obtain⟨h1,h2⟩:=J6 h;exact⟨by rw[h1];exact hfn,by rw[h2];exact hff,bX2 (h.shape hg hf)⟩
theorem ax9 {ns:List SNode} {fs:List SFile} {room:Int} {M:SMach} (hg:gchk ns=0) (hf:fchk fs=0) (hb:T0 ns fs) (Ag:1<=room) (h:Go.Gs.Reach ns fs room M):∃k r,Fins k M (r,0)/\overS r=true/\Go.Gs.Reach ns fs room r/\r.sunk=Go.Gs.sunk ns fs:=by obtain⟨k,r,hF⟩:=ct8 (h.shape hg hf);obtain⟨h1,h2,h3,h4⟩:=Go.Gs.Reach.fin hg hf hb Ag hF h;obtain⟨r,e⟩:=r;simp only at h1;subst h1;exact⟨k,r,hF,h2,h3,h4⟩
def pcell (r:Int):List Value:=[.slice none 0 0,.int .i64 r,.bool false,.bool false]
structure QS where
 il:Nat
 ol:Nat
 gg:Nat
 go:Nat
def qcell (q:QS):List Value:=[.slice (some ⟨q.gg,0,none⟩) q.il q.il,.int .i64 0,.slice (some ⟨q.go,0,none⟩) q.ol q.ol,.bool false,.bool false]
def ah8 (w:World) (g n:Nat):Prop:=∀j,j<n->w.cell? ⟨g,j,none⟩=some (.slice none 0 0)
structure NewAt (w2 wr:World) (bM:Nat) (vN vF vX vP vS:Value) (L:List Int) (Q:List QS):Prop where
 bel:Below w2.heap.size w2 wr
 lo:w2.heap.size<=bM
 box:wr.heap[bM]? = some (.cells #[vN,vF,vX,vP,vS] 30 (0,0))
 rX:wr.ownsRow w2.heap.size 66 4 vX L.length (L.map pcell).flatten
 rP:wr.ownsRow w2.heap.size 76 5 vP Q.length (Q.map qcell).flatten
 nX:vX.ownBlock≠some bM
 nP:vP.ownBlock≠some bM
 nXP:∀g,vX.ownBlock=some g->vP.ownBlock≠some g
 lists:∀q∈Q,q.il<=1000/\q.ol<=1000/\ah8 wr q.gg q.il/\ah8 wr q.go q.ol /\ ∀g,g=q.gg\/g=q.go->g<wr.heap.size/\g≠bM/\vX.ownBlock≠some g/\vP.ownBlock≠some g/\w2.heap.size<=g
theorem ae3 {w w':World} {g n:Nat} (h:ah8 w g n) (hk:w'.heap[g]? = w.heap[g]?):ah8 w' g n:=fun j hj=>by
 have:=h j hj
 simp only[World.cell?] at this ⊢
 rw[hk]
 exact this
theorem NewAt.below {w2 wr w':World} {bM:Nat} {vN vF vX vP vS:Value} {L:List Int} {Q:List QS} (h:NewAt w2 wr bM vN vF vX vP vS L Q) (hb:Bq wr w'):NewAt w2 w' bM vN vF vX vP vS L Q:=by have hbl:bM<wr.heap.size:=(aSm h.box).1;have hs:=hb.size;refine⟨h.bel.trans (hb.mono h.bel.size),h.lo,(hb.block _ hbl).trans h.box,o5 h.rX (fun g hg=>hb.block g (h.rX.lt g hg).2),o5 h.rP (fun g hg=>hb.block g (h.rP.lt g hg).2),h.nX,h.nP,h.nXP,fun q hq=>?_⟩;obtain⟨a1,a2,a3,a4,a5⟩:=h.lists q hq;refine⟨a1,a2,ae3 a3 (hb.block _ (a5 _ (.inl rfl)).1),ae3 a4 (hb.block _ (a5 _ (.inr rfl)).1),fun g hg=>?_⟩;obtain⟨b1,b2,b3,b4⟩:=a5 g hg;exact⟨by omega,b2,b3,b4⟩
theorem bX3:(Tryz.prog.info? 66).map (fun i=>(i.zero,i.size,i.bytes))=some (some (.agg #[.slice none 0 0,.int .i64 0,.bool false,.bool false]),4,40):=bb9
theorem NewAt.pipe {w2 wr:World} {bM:Nat} {vN vF vX vP vS:Value} {L:List Int} {Q:List QS} (h:NewAt w2 wr bM vN vF vX vP vS L Q) (hL:L.length<=1000) {ad:Addr} {c:Nat} {r:Int} (hc:∀j u,(pcell r)[j]? = some u->wr.cell? (ad.add j)=some u) (ty:TypeId) :
 ∃v' w',(Builtin.append_ #[26,26] ty #[vX,.slice (some ad) 1 c]).run Tryz.prog wr=.ok v' w'/\(∃a' c',v'=.slice a' (L.length+1) c')/\w'.heap[bM]? = wr.heap[bM]? /\ (∀g,g<wr.heap.size->g<w2.heap.size\/vX.ownBlock≠some g->w'.heap[g]? = wr.heap[g]?)/\(∀g,g<wr.heap.size->vX.ownBlock≠some g->v'.ownBlock≠some g)/\NewAt w2 (w'.setCell ⟨bM,2,none⟩ v') bM vN vF v' vP vS (L++[r]) Q:=by
 obtain⟨i0,hi,hi0,hi1,hi2⟩:=info_parts bX3;have hbl:bM<wr.heap.size:=(aSm h.box).1;obtain⟨v',w',hr,Ab,hg,_,hl⟩:=run_append_own_at (P:=Tryz.prog) wr w2.heap.size 26 ty 66 i0 (.agg #[.slice none 0 0,.int .i64 0,.bool false,.bool false]) 4 40 Tryz.underlying26 hi hi0 hi1 hi2 rfl (by decide) vX L.length (L.map pcell).flatten h.rX ad 1 c (pcell r) rfl hc (fun u hu=>by unfold pcell at hu;simp at hu;rcases hu with rfl | rfl | rfl | rfl <;> rfl) (by unfold maxLen;omega) (by omega) h.bel.size;have hk:∀g,g<wr.heap.size->vX.ownBlock≠some g->w'.heap[g]? = wr.heap[g]?:=fun g hgs hn=>hg.block g hgs (fun e=>hn e.symm);have hbM:w'.heap[bM]? = wr.heap[bM]?:=hk bM hbl h.nX;obtain⟨⟨a',c',hv',_,_⟩,_⟩:=j8 Ab;have hs:=hg.size;have hnX':v'.ownBlock≠some bM:=fun e=>by
  rcases hl with e1 | e1
  . exact h.nX (by rw[<- e1];exact e)
  . rw[e1] at e;injection e with e;omega
 have hk2:∀g,g≠bM->(w'.setCell ⟨bM,2,none⟩ v').heap[g]? = w'.heap[g]?:=fun g hg'=>Below.heap_setCell _ _ _ _ hg';have Oo:∀g,g<w2.heap.size->vX.ownBlock≠some g:=fun g hg' e=>by have:=(h.rX.lt g e).1;omega
 have Aq:∀g,g<wr.heap.size->vX.ownBlock≠some g->v'.ownBlock≠some g:=fun g h1 h2 e=>by
  rcases hl with e1 | e1
  . exact h2 (by rw[<- e1];exact e)
  . rw[e1] at e;injection e with e;omega
 refine⟨v',w',hr,⟨a',c',hv'⟩,hbM,fun g h1 h2=>hk g h1 (by rcases h2 with h2 | h2;exact Oo g h2;exact h2),Aq,?_⟩;refine⟨⟨hg.os.trans h.bel.os,hg.tape.trans h.bel.tape,hg.output.trans h.bel.output,by have:=h.bel.size;simp;omega,fun g hg'=>?_⟩,h.lo,?_,?_,?_,hnX',h.nP,fun g hg'=>?_,fun q hq=>?_⟩
 . rw[hk2 g (by have:=h.lo;omega),hk g (by have:=h.bel.size;omega) (Oo g hg')];exact h.bel.block g hg'
 . have hb':=hbM.trans h.box;rw[setCell_eq_setRow w' bM 2 _ _ (0,0) v' hb'];exact setRow_heap w' bM _ _ _ _ hb'
 . rw[List.map_append,List.flatten_append,List.length_append];refine o5 ?_ (fun g hg'=>hk2 g (fun e=>hnX' (by rw[<- e];exact hg')));simpa using Ab
 . refine o5 h.rP (fun g hg'=>?_);rw[hk2 g (fun e=>h.nP (by rw[<- e];exact hg'))];exact hk g (h.rP.lt g hg').2 (fun e=>h.nXP g e hg')
 .
  rcases hl with e1 | e1
  . exact h.nXP g (by rw[<- e1];exact hg')
  . rw[e1] at hg';injection hg' with hg';intro e;have:=(h.rP.lt g e).2;omega
 . obtain⟨a1,a2,a3,a4,a5⟩:=h.lists q hq;have hq1:=a5 _ (.inl rfl);have hq2:=a5 _ (.inr rfl);refine⟨a1,a2,ae3 a3 ((hk2 _ hq1.2.1).trans (hk _ hq1.1 hq1.2.2.1)),ae3 a4 ((hk2 _ hq2.2.1).trans (hk _ hq2.1 hq2.2.2.1)),fun g hg'=>?_⟩;obtain⟨b1,b2,b3,b4⟩:=a5 g hg';exact⟨by simp;omega,b2,Aq g b1 b3,b4⟩
theorem NewAt.proc {w2 wr:World} {bM:Nat} {vN vF vX vP vS:Value} {L:List Int} {Q:List QS} (h:NewAt w2 wr bM vN vF vX vP vS L Q) (hQ:Q.length<=1000) {ad:Addr} {c:Nat} {q:QS} (hc:∀j u,(qcell q)[j]? = some u->wr.cell? (ad.add j)=some u) (ty:TypeId)
 (hq:q.il<=1000/\q.ol<=1000/\ah8 wr q.gg q.il/\ah8 wr q.go q.ol /\ ∀g,g=q.gg\/g=q.go->g<wr.heap.size/\g≠bM/\vX.ownBlock≠some g/\vP.ownBlock≠some g/\w2.heap.size<=g) :
 ∃v' w',(Builtin.append_ #[27,27] ty #[vP,.slice (some ad) 1 c]).run Tryz.prog wr=.ok v' w'/\(∃a' c',v'=.slice a' (Q.length+1) c')/\w'.heap[bM]? = wr.heap[bM]? /\ (∀g,g<wr.heap.size->vP.ownBlock≠some g->w'.heap[g]? = wr.heap[g]?)/\Bq w2 w'/\NewAt w2 (w'.setCell ⟨bM,3,none⟩ v') bM vN vF vX v' vS L (Q++[q]):=by
 obtain⟨i0,hi,hi0,hi1,hi2⟩:=info_parts bc4;have hbl:bM<wr.heap.size:=(aSm h.box).1;obtain⟨v',w',hr,Ab,hg,_,hl⟩:=run_append_own_at (P:=Tryz.prog) wr w2.heap.size 27 ty 76 i0 (.agg #[.slice none 0 0,.int .i64 0,.slice none 0 0,.bool false,.bool false]) 5 64 Tryz.underlying27 hi hi0 hi1 hi2 rfl (by decide) vP Q.length (Q.map qcell).flatten h.rP ad 1 c (qcell q) rfl hc (fun u hu=>by unfold qcell at hu;simp at hu;rcases hu with rfl | rfl | rfl | rfl | rfl <;> rfl) (by unfold maxLen;omega) (by omega) h.bel.size;have hk:∀g,g<wr.heap.size->vP.ownBlock≠some g->w'.heap[g]? = wr.heap[g]?:=fun g hgs hn=>hg.block g hgs (fun e=>hn e.symm);have hbM:w'.heap[bM]? = wr.heap[bM]?:=hk bM hbl h.nP;obtain⟨⟨a',c',hv',_,_⟩,_⟩:=j8 Ab;have hs:=hg.size;have hnP':v'.ownBlock≠some bM:=fun e=>by
  rcases hl with e1 | e1
  . exact h.nP (by rw[<- e1];exact e)
  . rw[e1] at e;injection e with e;omega
 have hk2:∀g,g≠bM->(w'.setCell ⟨bM,3,none⟩ v').heap[g]? = w'.heap[g]?:=fun g hg'=>Below.heap_setCell _ _ _ _ hg';have Oo:∀g,g<w2.heap.size->vP.ownBlock≠some g:=fun g hg' e=>by have:=(h.rP.lt g e).1;omega
 refine⟨v',w',hr,⟨a',c',hv'⟩,hbM,hk,⟨hg.os.trans h.bel.os,hg.tape.trans h.bel.tape,hg.output.trans h.bel.output,by have:=h.bel.size;omega,fun g hg'=>(hk g (by have:=h.bel.size;omega) (Oo g hg')).trans (h.bel.block g hg')⟩,?_⟩;have Aq:∀g,g<wr.heap.size->vP.ownBlock≠some g->v'.ownBlock≠some g:=fun g h1 h2 e=>by
  rcases hl with e1 | e1
  . exact h2 (by rw[<- e1];exact e)
  . rw[e1] at e;injection e with e;omega
 refine⟨⟨hg.os.trans h.bel.os,hg.tape.trans h.bel.tape,hg.output.trans h.bel.output,by have:=h.bel.size;simp;omega,fun g hg'=>?_⟩,h.lo,?_,?_,?_,h.nX,hnP',fun g hg'=>?_,fun p hp=>?_⟩
 . rw[hk2 g (by have:=h.lo;omega),hk g (by have:=h.bel.size;omega) (Oo g hg')];exact h.bel.block g hg'
 . have hb':=hbM.trans h.box;rw[setCell_eq_setRow w' bM 3 _ _ (0,0) v' hb'];exact setRow_heap w' bM _ _ _ _ hb'
 . refine o5 h.rX (fun g hg'=>?_);rw[hk2 g (fun e=>h.nX (by rw[<- e];exact hg'))];exact hk g (h.rX.lt g hg').2 (h.nXP g hg')
 . rw[List.map_append,List.flatten_append,List.length_append];refine o5 ?_ (fun g hg'=>hk2 g (fun e=>hnP' (by rw[<- e];exact hg')));simpa using Ab
 . exact Aq g (h.rX.lt g hg').2 (h.nXP g hg')
 .
  have key:p.il<=1000/\p.ol<=1000/\ah8 wr p.gg p.il/\ah8 wr p.go p.ol /\ ∀g,g=p.gg\/g=p.go->g<wr.heap.size/\g≠bM/\vX.ownBlock≠some g/\vP.ownBlock≠some g/\w2.heap.size<=g:=by
   rcases List.mem_append.1 hp with hp | hp
   . exact h.lists p hp
   . rw[List.mem_singleton.1 hp];exact hq
  obtain⟨a1,a2,a3,a4,a5⟩:=key;have hq1:=a5 _ (.inl rfl);have hq2:=a5 _ (.inr rfl);refine⟨a1,a2,ae3 a3 ((hk2 _ hq1.2.1).trans (hk _ hq1.1 hq1.2.2.2.1)),ae3 a4 ((hk2 _ hq2.2.1).trans (hk _ hq2.1 hq2.2.2.2.1)),fun g hg'=>?_⟩;obtain⟨b1,b2,b3,b4⟩:=a5 g hg';exact⟨by simp;omega,b2,b3,Aq g b1 b4.1,b4.2⟩
theorem NewAt.procX {w2 wr:World} {bM:Nat} {vN vF vX vP vS:Value} {L:List Int} {Q:List QS} (h:NewAt w2 wr bM vN vF vX vP vS L Q) (hQ:Q.length<=1000) {y W:World} (hy:Bq wr y) (hW:Bq y W) {ad gg go il ol:Nat} (hil:il<=1000) (hol:ol<=1000) (hgg:wr.heap.size<=gg/\gg<y.heap.size) (hgo:wr.heap.size<=go/\go<y.heap.size)
 {C1 C2:Array Value} (h1:y.heap[gg]? = some (.cells C1 28 (0,0))) (h2:y.heap[go]? = some (.cells C2 28 (0,0))) (p1:∀j,j<il->C1[j]? = some (.slice none 0 0)) (p2:∀j,j<ol->C2[j]? = some (.slice none 0 0))
 (h3:y.heap[ad]? = some (.cells #[.slice (some ⟨gg,0,none⟩) il il,.int .i64 0,.slice (some ⟨go,0,none⟩) ol ol,.bool false,.bool false] 76 (0,0))) (ty:TypeId) :
 ∃v' w',(Builtin.append_ #[27,27] ty #[vP,.slice (some ⟨ad,0,none⟩) 1 1]).run Tryz.prog W=.ok v' w'/\(∃a' c',v'=.slice a' (Q.length+1) c')/\w'.heap[bM]? = wr.heap[bM]? /\ (∀g,g<wr.heap.size->vP.ownBlock≠some g->w'.heap[g]? = wr.heap[g]?)/\(∀g,g<W.heap.size->vP.ownBlock≠some g->w'.heap[g]? = W.heap[g]?)/\Bq w2 w'/\NewAt w2 (w'.setCell ⟨bM,3,none⟩ v') bM vN vF vX v' vS L (Q++[⟨il,ol,gg,go⟩]):=by
 have hbW:Bq wr W:=hy.trans (hW.mono hy.size);have hN:=h.below hbW;have hs1:=hy.size;have hs2:=hW.size;have hbl:bM<wr.heap.size:=(aSm h.box).1;have hadl:ad<y.heap.size:=(aSm h3).1;have n1:ah8 W gg il:=fun j hj=>by rw[cell_of_row _ _ _ _ _ _ ((hW.block gg hgg.2).trans h1)];exact p1 j hj
 have n2:ah8 W go ol:=fun j hj=>by rw[cell_of_row _ _ _ _ _ _ ((hW.block go hgo.2).trans h2)];exact p2 j hj
 obtain⟨v',w',e1,e2,e3,e5,e6,e4⟩:=NewAt.proc hN hQ (ad:=⟨ad,0,none⟩) (c:=1) (q:=⟨il,ol,gg,go⟩) (fun j u hu=>by
  rw[addP,cell_of_row _ _ _ _ _ _ ((hW.block ad hadl).trans h3),Nat.zero_add]
  rw[<- Array.getElem?_toList]
  exact hu) ty ⟨hil,hol,n1,n2,fun g hg=>by
   have hgx:wr.heap.size<=g/\g<y.heap.size:=by
    rcases hg with rfl | rfl
    . exact hgg
    . exact hgo
   refine⟨by omega,by omega,fun e=>?_,fun e=>?_,by have:=h.bel.size;omega⟩
   . have:=(h.rX.lt g e).2
     omega
   . have:=(h.rP.lt g e).2
     omega⟩
 exact⟨v',w',e1,e2,e3.trans (hbW.block bM hbl),fun g hg hn=>(e5 g (by omega) hn).trans (hbW.block g hg),e5,e6,e4⟩
theorem bf1 {w:World} {g n:Nat} (h:ah8 w g n) (hn:n<=1000):RList w (.slice (some ⟨g,0,none⟩) n n) U (List.replicate n []):=by
 refine⟨List.replicate n (.slice none 0 0),⟨by simp,_,n,by simp,by simp,by unfold maxLen;omega,fun _=>⟨g,0,rfl,fun j u hu=>?_⟩⟩,fun j b hb=>?_⟩
 .
  rw[List.getElem?_replicate] at hu;split at hu
  . rename_i hj;injection hu with hu;subst hu;rw[Nat.zero_add];exact h j hj
  . cases hu
 .
  rw[List.getElem?_replicate] at hb;split at hb
  . rename_i hj;injection hb with hb;subst hb;exact⟨.slice none 0 0,by rw[List.getElem?_replicate,if_pos hj],rnil⟩
  . cases hb
theorem NewAt.mach {w2 wr:World} {bM:Nat} {vN vF vX vP vS:Value} {L:List Int} {Q:List QS} (h:NewAt w2 wr bM vN vF vX vP vS L Q) {ns:List SNode} {fs:List SFile} (hN:A2 w2 vN ns) (hF:j9 w2 vF fs) {aS:Option Addr} {cs:Nat} (hS:vS=.slice aS 0 cs) (hcs:cs<=maxLen) {M:SMach} (e1:M.ns=ns) (e2:M.fs=fs) (e3:M.pipes=L.map (fun r=>⟨[],r,false,false⟩)) (e4:M.ps=Q.map (fun q=>⟨List.replicate q.il [],0,List.replicate q.ol [],false,false⟩)) (e5:M.sunk=[]) (w':World) (hk:∀g,w2.heap.size<=g->w'.heap[g]? = wr.heap[g]?) (hN':A2 w' vN ns) (hF':j9 w' vF fs) :
 ∃an af ax ap cn cf cx cp,vN=.slice an M.ns.length cn/\vF=.slice af M.fs.length cf/\vX=.slice ax M.pipes.length cx/\vP=.slice ap M.ps.length cp/\RMach w' an af ax ap aS cn cf cx cp cs M:=by
 subst e1 e2;obtain⟨an,cn,eN,_,_⟩:=hN.shape;obtain⟨af,cf,eF,_,_⟩:=hF.shape;obtain⟨⟨ax,cx,eX,hx1,hx2⟩,hxf⟩:=j8 h.rX;obtain⟨⟨ap,cp,eP,hp1,hp2⟩,hpf⟩:=j8 h.rP;have hl1:M.pipes.length=L.length:=by rw[e3,List.length_map]
 have hl2:M.ps.length=Q.length:=by rw[e4,List.length_map]
 have Ac:∀g j u,w2.heap.size<=g->wr.cell? ⟨g,j,none⟩=some u->w'.cell? ⟨g,j,none⟩=some u:=fun g j u hg hu=>by have:=hk g hg;simp only[World.cell?] at hu ⊢;rw[this];exact hu
 refine⟨an,af,ax,ap,cn,cf,cx,cp,eN,eF,by rw[hl1];exact eX,by rw[hl2];exact eP,by rw[eN] at hN';exact hN',by rw[eF] at hF';exact hF',⟨ax,cx,rfl,by omega,hx2,fun hn=>?_⟩,⟨ap,cp,rfl,by omega,hp2,fun hn=>?_⟩,?_⟩
 .
  obtain⟨g,c,q1,_,_,_,hc,_⟩:=hxf (by omega);have hgl:=(h.rX.lt g (by rw[q1];rfl)).1;rw[eX] at q1;injection q1 with q1 _ _;refine⟨g,0,q1,fun j x hx=>?_⟩;rw[e3,List.getElem?_map] at hx
  cases hr:L[j]? with
  | none=>rw[hr] at hx;cases hx
  | some r=>
   rw[hr] at hx
   simp only[Option.map_some,Option.some.injEq] at hx
   subst hx
   have hjl:j<L.length:=(gSm hr).1
   have hat:=ad1 (k:=4) (L.map pcell) j (pcell r) (fun y hy=>by obtain⟨z,_,rfl⟩:=List.mem_map.1 hy;rfl) (by rw[List.getElem?_map,hr];rfl)
   rw[Nat.zero_add]
   exact⟨none,0,Ac g _ _ hgl ((hc (j*4) (by omega)).trans (hat 0 (by omega))),Ac g _ _ hgl ((hc (j*4+1) (by omega)).trans (hat 1 (by omega))),Ac g _ _ hgl ((hc (j*4+2) (by omega)).trans (hat 2 (by omega))),Ac g _ _ hgl ((hc (j*4+3) (by omega)).trans (hat 3 (by omega))),rnil⟩
 .
  obtain⟨g,c,q1,_,_,_,hc,_⟩:=hpf (by omega);have hgl:=(h.rP.lt g (by rw[q1];rfl)).1;rw[eP] at q1;injection q1 with q1 _ _;refine⟨g,0,q1,fun j p hp=>?_⟩;rw[e4,List.getElem?_map] at hp
  cases hr:Q[j]? with
  | none=>rw[hr] at hp;cases hp
  | some q=>
   rw[hr] at hp
   simp only[Option.map_some,Option.some.injEq] at hp
   subst hp
   have hjl:j<Q.length:=(gSm hr).1
   obtain⟨a1,a2,a3,a4,a5⟩:=h.lists q (mGt hr)
   have hat:=ad1 (k:=5) (Q.map qcell) j (qcell q) (fun y hy=>by obtain⟨z,_,rfl⟩:=List.mem_map.1 hy;rfl) (by rw[List.getElem?_map,hr];rfl)
   rw[Nat.zero_add]
   have To:(List.replicate q.il ([]:List UInt8)).length=q.il:=by simp
   have hlen2:(List.replicate q.ol ([]:List UInt8)).length=q.ol:=by simp
   refine⟨some ⟨q.gg,0,none⟩,q.il,some ⟨q.go,0,none⟩,q.ol,?_,Ac g _ _ hgl ((hc (j*5+1) (by omega)).trans (hat 1 (by omega))),?_,Ac g _ _ hgl ((hc (j*5+3) (by omega)).trans (hat 3 (by omega))),Ac g _ _ hgl ((hc (j*5+4) (by omega)).trans (hat 4 (by omega))),?_,?_⟩
   . simp only[To]
     exact Ac g _ _ hgl ((hc (j*5) (by omega)).trans (hat 0 (by omega)))
   . simp only[hlen2]
     exact Ac g _ _ hgl ((hc (j*5+2) (by omega)).trans (hat 2 (by omega)))
   . simp only[To]
     exact bf1 (ae3 a3 (hk _ (a5 _ (.inl rfl)).2.2.2.2)) a1
   . simp only[hlen2]
     exact bf1 (ae3 a4 (hk _ (a5 _ (.inr rfl)).2.2.2.2)) a2
 . rw[e5];exact⟨rfl,aS,cs,rfl,Nat.zero_le _,hcs,fun hn=>absurd rfl hn⟩
end Go.Proofs.YtllgglolcgdehaaGreatDoor
namespace Go.Gs
open Go.RowKit
set_option linter.unusedVariables false
section
variable {P:Program} {ops:Array Oper} {Q:Exit->Act->World->Prop}
theorem aW2 {l:List Bool} {i:Nat} (h:l[i]? = some false):(l.set i true).count false+1=l.count false:=by
 induction l generalizing i with
 | nil=>simp at h
 | cons b l ih=>
  cases i with
  | zero=>
   simp only[List.getElem?_cons_zero,Option.some.injEq] at h
   subst h
   simp
  | succ i=>
   simp only[List.getElem?_cons_succ] at h
   have:=ih h
   simp only[List.set_cons_succ,List.count_cons]
   omega
theorem aW3 {listed:Array Bool} {i:Nat} (h:listed.getD i true=false):listed.toList[i]? = some false/\i<listed.size:=by
 rw[Array.getD_eq_getD_getElem?] at h
 cases hl:listed[i]? with
 | none=>rw[hl] at h;cases h
 | some b=>
  rw[hl] at h
  simp only[Option.getD_some] at h
  subst h
  exact⟨by simpa using hl,(aSm hl).1⟩
theorem bX4 (hac : ∀ (i : Nat) (o : Oper), ops[i]? = some o → ∀ e ∈ o.after, e.on < i) (Inv : (Nat → Bool) → Act → World → Prop)
    (Au : ∀ (L : Nat → Bool) (i : Nat) (o : Oper) (a : Act) (w : World), ops[i]? = some o → L i = false → (∀ e ∈ o.after, Region.binds .any e = true → L e.on = true) → Inv L a w → wpOp P ops Q i (fun a' w' => Inv (fun j => if j = i then true else L j) a' w') a w)
    (Di : ∀ (L : Nat → Bool) (a : Act) (w : World), (∀ i, i < ops.size → L i = true) → Inv L a w → Q .normal a w) :
    ∀ (fuel : Nat) (listed : Array Bool) (a : Act) (w : World), listed.size = ops.size → listed.toList.count false ≤ fuel → Inv (fun j => listed.getD j false) a w → wpAny P .any ops Q fuel listed a w := by
 have Ae : ∀ (listed : Array Bool), listed.size = ops.size → Region.ready .any ops listed = [] → ∀ i, i < ops.size → listed.getD i false = true := by
  intro listed hs hr i
  induction i using Nat.strongRecOn with
  | ind i ih =>
    intro hi
    cases hl : listed[i]? with
    | none => rw [Array.getElem?_eq_none_iff] at hl; omega
    | some b =>
      cases b with
      | true => rw [Array.getD_eq_getD_getElem?, hl]; rfl
      | false =>
        exfalso
        have : i ∈ Region.ready .any ops listed := mem_ready.2 ⟨by rw [Array.getD_eq_getD_getElem?, hl]; rfl, ops[i], by simp [hi], fun e he hb => ih e.on (hac i _ (by simp [hi]) e he) (by have := hac i _ (show ops[i]? = some ops[i] by simp [hi]) e he; omega)⟩
        rw [hr] at this
        cases this
 intro fuel
 induction fuel with
 | zero =>
   intro listed a w hs hc hI
   have hr : Region.ready .any ops listed = [] := by
     rw [List.eq_nil_iff_forall_not_mem]
     intro i hi
     obtain ⟨h1, _⟩ := mem_ready.1 hi
     have h2 := (aW3 h1).1
     have : false ∈ listed.toList := List.mem_of_getElem? h2
     have := List.count_pos_iff.2 this
     omega
   exact ⟨hr, Di _ a w (Ae listed hs hr) hI⟩
 | succ fuel ih =>
   intro listed a w hs hc hI
   refine ⟨fun hr => Di _ a w (Ae listed hs hr) hI, fun i hi => ?_⟩
   obtain ⟨h1, o, ho, h2⟩ := mem_ready.1 hi
   obtain ⟨h3, h4⟩ := aW3 h1
   have hLi : listed.getD i false = false := by rw [Array.getD_eq_getD_getElem?]; have : listed[i]? = some false := by simpa using h3
                                                rw [this]; rfl
   refine wpOp_mono ?_ (Au _ i o a w ho hLi h2 hI)
   intro a' w' hI'
   refine ih _ a' w' (by simp [hs]) ?_ ?_
   . have := aW2 h3
     rw [Array.toList_setIfInBounds]
     omega
   . have e : (fun j => (listed.setIfInBounds i true).getD j false) = fun j => if j = i then true else listed.getD j false := by
       funext j
       by_cases hj : j = i
       . subst hj
         rw [if_pos rfl, Array.getD_eq_getD_getElem?, Array.getElem?_setIfInBounds_self_of_lt h4]
         rfl
       . rw [if_neg hj, getD_set_ne false (fun e => hj e.symm)]
     rw [e]
     exact hI'
theorem aZ0 {id:Nat} {a:Act} {w:World} (hm:P.follows .mixedOrders=true) (hac:((List.range ops.size).all fun i=>((ops[i]?).map (·.after.all fun e=>decide (e.on<i))).getD true)=true) (Inv:(Nat->Bool)->Act->World->Prop)
 (Au:∀(L:Nat->Bool) (i:Nat) (o:Oper) (a:Act) (w:World),ops[i]? = some o->L i=false->(∀e∈o.after,Region.binds .any e=true->L e.on=true)->Inv L a w->wpOp P ops Q i (fun a' w'=>Inv (fun j=>if j=i then true else L j) a' w') a w)
 (Di:∀(L:Nat->Bool) (a:Act) (w:World),(∀i,i<ops.size->L i=true)->Inv L a w->Q .normal a w)
 (h0:Inv (fun _=>false) a { w with drawn:=w.drawn+1 }):(Code.region id ops true).wp P Q a w:=by
 refine wp_region_any hm (bX4 ?_ Inv Au Di ops.size _ a _ (by simp) (by simp) ?_)
 . intro i o ho e he;have hi:i<ops.size:=(aSm ho).1;have:=List.all_eq_true.1 hac i (List.mem_range.2 hi);rw[ho] at this;simp only[Option.map_some,Option.getD_some,Array.all_eq_true_iff_forall_mem,decide_eq_true_eq] at this;exact this e he
 .
  have e:(fun j=>(Array.replicate ops.size false).getD j false)=fun _=>false:=by
   funext j;rw[Array.getD_eq_getD_getElem?]
   cases h:(Array.replicate ops.size false)[j]? with
   | none=>rfl
   | some b=>
    have:=Array.mem_of_getElem? h
    rw[Array.mem_replicate] at this
    rw[this.2];rfl
  rw[e];exact h0
end
end Go.Gs
namespace Go.Gs
open Go.RowKit
set_option linter.unusedVariables false
def updV (L:Nat->Bool) (i:Nat):Nat->Bool:=fun j=>if j=i then true else L j
theorem ck7 {a:Act} {d s:Nat} {v:Value} (h:s≠d):(a.put (some d) v).eval (.tmp s)=a.eval (.tmp s):=by simp only[Act.put,Act.eval];rw[Array.getD_eq_getD_getElem?,Array.getD_eq_getD_getElem?,Array.getElem?_setIfInBounds_ne (Ne.symm h)]
theorem ck8 {a:Act} {d:Nat} {v:Value} (h:d<a.tmps.size):(a.put (some d) v).eval (.tmp d)=v:=by simp only[Act.put,Act.eval];rw[Array.getD_eq_getD_getElem?,Array.getElem?_setIfInBounds_self_of_lt h];rfl
structure OV (f n:Nat) (V:Nat->Value->World->Prop) (a0:Act) (W0:World) (L:Nat->Bool) (a:Act) (W:World):Prop where
 sz:a.tmps.size=a0.tmps.size
 df:a.defers=a0.defers
 be:Below W0.heap.size W0 W
 vs:∀i,i<n->L i=true->V i (a.eval (.tmp (f+i))) W
 fr:∀s,s<f\/f+n<=s->a.tmps[s]? = a0.tmps[s]?
theorem OV.old {f n:Nat} {V:Nat->Value->World->Prop} {a0:Act} {W0:World} {L:Nat->Bool} {a:Act} {W:World} (h:OV f n V a0 W0 L a W) {s:Nat} (hs:s<f\/f+n<=s):a.eval (.tmp s)=a0.eval (.tmp s):=by simp only[Act.eval];rw[Array.getD_eq_getD_getElem?,Array.getD_eq_getD_getElem?,h.fr s hs]
theorem by9 (f:Nat) (g:Nat->Value) (a0:Act):∀m,f+m<=a0.tmps.size->((List.range m).foldl (fun b i=>b.put (some (f+i)) (g i)) a0).defers=a0.defers/\((List.range m).foldl (fun b i=>b.put (some (f+i)) (g i)) a0).tmps.size=a0.tmps.size /\
 ∀s:Nat,((List.range m).foldl (fun b i=>b.put (some (f+i)) (g i)) a0).tmps[s]? = if f<=s/\s<f+m then some (g (s-f)) else a0.tmps[s]?
 | 0,_=>⟨rfl,rfl,fun s=>by rw[if_neg (by omega)];rfl⟩
 | m+1,hm=>by
  obtain⟨h1,h2,h3⟩:=by9 f g a0 m (by omega)
  rw[List.range_succ,List.foldl_append]
  simp only[List.foldl_cons,List.foldl_nil]
  generalize (List.range m).foldl (fun b i=>b.put (some (f+i)) (g i)) a0=b at *
  refine⟨h1,by simp[Act.put,h2],fun s=>?_⟩
  simp only[Act.put]
  by_cases e:s=f+m
  . subst e
    rw[Array.getElem?_setIfInBounds_self_of_lt (by omega),if_pos (by omega)]
    congr 2
    omega
  . rw[Array.getElem?_setIfInBounds_ne (by omega),h3 s]
    by_cases e2:f<=s/\s<f+m
    . rw[if_pos e2,if_pos (by omega)]
    . rw[if_neg e2,if_neg (by omega)]
theorem OV.form {f n:Nat} {V:Nat->Value->World->Prop} {a0:Act} {W0:World} {L:Nat->Bool} {a:Act} {W:World} (h:OV f n V a0 W0 L a W) (hs:f+n<=a0.tmps.size):a=(List.range n).foldl (fun b i=>b.put (some (f+i)) (a.eval (.tmp (f+i)))) a0:=by
 obtain⟨h1,h2,h3⟩:=by9 f (fun i=>a.eval (.tmp (f+i))) a0 n hs;generalize (List.range n).foldl (fun b i=>b.put (some (f+i)) (a.eval (.tmp (f+i)))) a0=b at *;have ht:a.tmps=b.tmps:=by
  apply Array.ext_getElem?;intro s;rw[h3 s];by_cases e:f<=s/\s<f+n
  . rw[if_pos e];have hlt:s<a.tmps.size:=by rw[h.sz];omega
    rw[Array.getElem?_eq_getElem hlt];simp only[Act.eval];rw[show f+(s-f)=s by omega,Array.getD_eq_getD_getElem?,Array.getElem?_eq_getElem hlt];rfl
  . rw[if_neg e];exact h.fr s (by omega)
 have hd:a.defers=b.defers:=by rw[h1,h.df]
 obtain⟨t1,d1⟩:=a;obtain⟨t2,d2⟩:=b;simp only at ht hd;subst ht hd;rfl
end Go.Gs
namespace Go.Proofs.YtllgglolcgdehaaGreatDoor
open Go.RowKit Go.Gs Go.Maps
set_option linter.unusedVariables false
def Zs (l:List Int):List Value:=l.map (fun e=>Value.int .i64 e)
def aq9 (b:Nat) (l:List Int) (w:World) (O:Nat->Option Own):Prop:=w.heap[b]? = some (.cells (Zs l).toArray 32 (0,0))/\O b=some .aux
theorem bz0 (b:Nat) (l:List Int):ar6 (aq9 b l):=by intro w w' O O' h hk hO;exact⟨(hk b h.2).trans h.1,(hO b _ h.2).trans h.2⟩
theorem bI1 {w:World} {D r n:Nat} {M:SMach} (h:l6 NoG w D r M):l6 (aq9 w.heap.size (List.replicate n 0)) (w.alloc (.cells (Zs (List.replicate n 0)).toArray 32)) D r M/\D<=w.heap.size:=by
 obtain⟨O,d,h1,hM⟩:=h;have hb:Bq w (w.alloc (.cells (Zs (List.replicate n 0)).toArray 32)):=(Below.refl _ w).alloc (Nat.le_refl _) _
 have h2:RMem (w.alloc (.cells (Zs (List.replicate n 0)).toArray 32)) D r (fun k=>if k=w.heap.size then some .aux else O k) _ d:=RMem.grow h1 hb (fun k hk=>if_neg (by omega)) (fun g o hg hge=>by
  by_cases e:g=w.heap.size
  . simp[e]
  . simp only[if_neg e] at hg
    exact absurd (h1.lo g o hg).2 (by omega))
 exact⟨⟨_,d,RMem.auxTo h2 (bh1 _ _ _ _ (bz0 _ _)) ⟨(h2.part .aux).1,heap_alloc_new _ _,by simp⟩,hM⟩,RMem.le h1⟩
theorem ck9 {w:World} {D r b k:Nat} {l:List Int} {M:SMach} {e:Int} (h:l6 (aq9 b l) w D r M):l6 (aq9 b (l.set k e)) (w.setCell ⟨b,k,none⟩ (.int .i64 e)) D r M/\D<=b:=by
 obtain⟨O,d,h1,hM⟩:=h;obtain⟨⟨a1,a2,bm,nm,a3,a4,a5⟩,s1,s2⟩:=h1.part .aux;have hD:=(h1.lo _ _ s2).1;have hrb:r≠b:=fun e=>by have:=h1.box.2;rw[e,s2] at this;exact absurd this (by simp)
 have hbm:bm≠b:=fun e=>by obtain⟨_,⟨es,clock,m1,_⟩,_⟩:=a4;rw[e,s1] at m1;exact absurd m1 (by simp)
 have hI:∀g,d.vI.ownBlock=some g->g≠b:=fun g hg e=>by
  rcases a1.2 with ⟨q,_⟩ | ⟨g',cap,cur,q1,_,q3,_⟩
  . rw[q] at hg;simp[Value.ownBlock] at hg
  . rw[q1] at hg;simp[Value.ownBlock] at hg;rw[hg,e,s1] at q3;exact absurd q3 (by simp)
 have Aj:(w.setCell ⟨b,k,none⟩ (.int .i64 e)).heap[b]? = some (.cells (Zs (l.set k e)).toArray 32 (0,0)):=by rw[setCell_eq_setRow w b k _ _ (0,0) _ s1,setRow_heap w b _ _ _ _ s1];unfold Zs;rw[List.map_set];simp
 have h2:=RMem.swap (A':=fun w O=>AuxF D d.vI d.vM d.M.ns w O/\aq9 b (l.set k e) w O) h1 (w':=w.setCell ⟨b,k,none⟩ (.int .i64 e)) (O':=O) d.vI rfl rfl rfl (by simp) (fun j _ _ hj=>Below.heap_setCell _ _ _ _ (fun q=>hj (by rw[q];exact s2))) (fun _ _=>rfl) (fun g o hg=>by have:=h1.lo g o hg;exact⟨this.1,by simpa using this.2⟩)
  ((Below.heap_setCell _ _ _ _ hrb).trans h1.box.1) (bh1 _ _ _ _ (bz0 _ _)) ⟨⟨o5 a1 (fun g hg=>Below.heap_setCell _ _ _ _ (hI g hg)),a2,bm,nm,a3,a4.keep (Below.heap_setCell _ _ _ _ hbm),a5⟩,Aj,s2⟩
 exact⟨⟨O,d,h2,hM⟩,hD⟩
theorem l6.said {w:World} {D r b:Nat} {l:List Int} {M:SMach} (h:l6 (aq9 b l) w D r M):w.heap[b]? = some (.cells (Zs l).toArray 32 (0,0))/\D<=b/\b≠r:=by obtain⟨O,d,h1,hM⟩:=h;obtain⟨_,s1,s2⟩:=h1.part .aux;exact⟨s1,(h1.lo _ _ s2).1,fun e=>by have:=h1.box.2;rw[<- e,s2] at this;exact absurd this (by simp)⟩
theorem bX5 {w:World} {b k:Nat} {l:List Int} {t:TypeId} (h:w.heap[b]? = some (.cells (Zs l).toArray t (0,0))) (hk:k<l.length):w.cell? ⟨b,k,none⟩=some (.int .i64 (l[k]'hk))/\w.frozen? ⟨b,k,none⟩=false:=by
 constructor
 . simp[World.cell?,h,Zs,hk]
 . simp[World.frozen?,h]
theorem bI2 {w:World} {b:Nat} {l:List Int} {t:TypeId} (h:w.heap[b]? = some (.cells (Zs l).toArray t (0,0))) (hl:l.length<=40000):Reads w (.slice (some ⟨b,0,none⟩) l.length l.length) l.length (Zs l):=by refine⟨by simp[Zs],some ⟨b,0,none⟩,l.length,rfl,Nat.le_refl _,by unfold maxLen;omega,fun _=>⟨b,0,rfl,fun j u hj=>?_⟩⟩;simp only[Nat.zero_add];simp[World.cell?,h,hj]
theorem R7 {w:World} {ao:Option Addr} {n cap:Nat} {xs:List Value} (h:Reads w (.slice ao n cap) n xs):n<=cap/\cap<=9223372036854775807:=by obtain⟨_,ao',c,e,h1,h2,_⟩:=h;unfold maxLen at h2;injection e with e1 e2 e3;omega
theorem bf2 {w:World} {ao:Option Addr} {n cap:Nat} {xs:List Value} (h:Reads w (.slice ao n cap) n xs) {j:Nat} {u:Value} (hj:xs[j]? = some u):∃b off,ao=some ⟨b,off,none⟩/\w.cell? ⟨b,off+j,none⟩=some u:=by obtain⟨hl,ao',c,e,h1,h2,h3⟩:=h;injection e with e1 e2 e3;subst e1;have:=(gSm hj).1;obtain⟨b,off,q,hc⟩:=h3 (by omega);exact⟨b,off,q,hc j u hj⟩
theorem aM9:∀(l:List Int) (M:SMach) (i:Int),l9 M (l++[i])=((stepS (l9 M l).1 i).1,(l9 M l).2++[(stepS (l9 M l).1 i).2])
 | [],M,i=>rfl
 | a::l,M,i=>by
  show ((l9 (stepS M a).1 (l++[i])).1,(stepS M a).2::(l9 (stepS M a).1 (l++[i])).2)=_
  rw[aM9 l]
  rfl
theorem aq0:∀(l:List Int) (M:SMach),(l9 M l).2.length=l.length
 | [],M=>rfl
 | a::l,M=>by
  show (_::(l9 (stepS M a).1 l).2).length=_
  rw[List.length_cons,aq0 l,List.length_cons]
theorem InvM.stepS {ns:List SNode} {fs:List SFile} {I:SMach->Prop} (h:InvM ns fs I) {M:SMach} (hM:I M) (i:Int):I (stepS M i).1:=by
 unfold Go.Gs.stepS;split
 . exact hM
 . exact h.step M _ hM
theorem InvM.picks {ns:List SNode} {fs:List SFile} {I:SMach->Prop} (h:InvM ns fs I):∀(l:List Int) (M:SMach),I M->I (l9 M l).1
 | [],M,hM=>hM
 | i::l,M,hM=>h.picks l _ (h.stepS hM i)
theorem bX6 {M:SMach} {l:List Int} {k n:Nat} {i:Int} (hn:n=l.length) (hk:k<n) (hi:l[k]? = some i):(((l9 M (l.take k)).2++List.replicate (n-k) 0).set k (stepS (l9 M (l.take k)).1 i).2)=(l9 M (l.take (k+1))).2++List.replicate (n-(k+1)) 0/\(l9 M (l.take (k+1))).1=(stepS (l9 M (l.take k)).1 i).1:=by
 have e1:l.take (k+1)=l.take k++[i]:=by rw[List.take_add_one,hi];rfl
 have e2:(l9 M (l.take k)).2.length=k:=by rw[aq0,List.length_take];omega
 have e3:List.replicate (n-k) (0:Int)=0::List.replicate (n-(k+1)) 0:=by rw[<- List.replicate_succ];congr 1;omega
 rw[e1,aM9];refine⟨?_,rfl⟩;rw[e3,List.set_append_right _ _ (by omega),e2,Nat.sub_self];simp
def runR (M:SMach) (l:List Int):SMach × List Int × Int:=if mchk M≠0 then (H7,[],mchk M) else if 40000<l.length then (H7,[],2) else ((l9 M l).1,(l9 M l).2,0)
theorem bI3:(Tryz.prog.info? 32).map (fun i=>(i.zero,i.size,i.bytes))=some (some (.int .i64 0),1,8):=by kernel_rfl
theorem aO9 (an af ax ap aS aq:Option Addr) (cn cf cx cp cs cq:Nat) (M:SMach) (l:List Int) (w:World) (h:RMach w an af ax ap aS cn cf cx cp cs M) (hq:Reads w (.slice aq l.length cq) l.length (Zs l)) (Ad:FitsM M) (hE:∀W,Bq w W->t8 W)
 (I:SMach->Prop) (hI:mchk M=0->InvM M.ns M.fs I) (hM:mchk M=0->I M) :
 Calls Tryz.prog 24 #[machV an af ax ap aS M cn cf cx cp cs,.slice aq l.length cq] w fun e w'=>∃v s,e=.returned (.tuple #[v,s,.int .i64 (runR M l).2.2])/\J4 w.heap.size w' v (runR M l).1/\Reads w' s (runR M l).2.1.length (Zs (runR M l).2.1)/\Bq w w':=by
 have HCK:Hid (∀W,Bq w W->Calls Tryz.prog 18 #[machV an af ax ap aS M cn cf cx cp cs] W fun e w'=>e=.returned (.int .i64 (mchk M))/\Bq W w'):=(show ∀W,_ from fun W hW=>aB3 an af ax ap aS cn cf cx cp cs M W (h.below hW) Ad)
 have HST:Hid (mchk M=0 -> ∀W,Bq w W->Calls Tryz.prog 56 #[machV an af ax ap aS M cn cf cx cp cs] W fun e w'=>∃D r,e=.returned (.pointer (some ⟨r,0,none⟩))/\l6 NoG w' D r M/\W.heap.size<=D/\Bq W w'):=(show mchk M=0 -> ∀W,_ from fun h0 W hW=>by
  obtain⟨q1,q2,q3⟩:=al9 h0
  exact aB2 an af ax ap aS cn cf cx cp cs M W (h.below hW) (aI9 q1 (fun p hp=>⟨fun b hb=>by have:=(q2 p hp).1 b hb;omega,fun b hb=>by have:=(q2 p hp).2 b hb;omega⟩) (by omega)) q1 Ad.nodes)
 have HSP:Hid (mchk M=0 -> ∀(b:Nat) (L:List Int) (D r:Nat) (M':SMach) (i:Int) (W:World),l6 (aq9 b L) W D r M'->I M'->w.heap.size<=D->Bq w W->Calls Tryz.prog 57 #[.pointer (some ⟨r,0,none⟩),.int .i64 i] W fun e w'=>e=.returned (.int .i64 (stepS M' i).2)/\l6 (aq9 b L) w' D r (stepS M' i).1/\Below D W w'):=(show mchk M=0 -> ∀(b:Nat) (L:List Int) (D r:Nat) (M':SMach) (i:Int) (W:World),_ from fun h0 b L D r M' i W hR hI' hD hW=>by
  obtain⟨O,d,hR1,rfl⟩:=hR
  exact aW1 D r O d i W hR1 ((hI h0).shape _ hI') (by rw[((hI h0).nodes _ hI').1];exact Ad.nodes) ((hI h0).small _ hI') (fun V hV=>hE V (hW.trans (hV.mono hD))))
 have HTO:Hid (mchk M=0 -> ∀k,I (l9 M (l.take k)).1):=(show mchk M=0 -> ∀k,_ from fun h0 k=>(hI h0).picks _ _ (hM h0));have HQ:=qH hq;have hle:=R7 hq;unfold machV at HCK HST ⊢;obtain⟨RES,Af⟩:=qE (runR M l);rw[<- Af];unfold runR at Af;obtain⟨n,hn⟩:=qE l.length;have HN:=qH hn;rw[<- hn] at HQ hle Af ⊢;generalize M.ns.length=NN at *;generalize M.fs.length=NF at *;generalize M.pipes.length=NX at *;generalize M.ps.length=NP at *;generalize M.sunk.length=NS at *;clear h Ad hE hI hM hq hn;by_cases h0:mchk M=0
 .
  have Ia:Hid _:=HST.out h0;have Fg:Hid _:=HSP.out h0;have Lh:Hid _:=HTO.out h0;rw[if_neg (by simpa using h0)] at Af;rw[h0] at HCK;clear HST HSP HTO h0;by_cases h4:40000<n
  .
   have Bw:Hid (RES=(H7,[],2)):=(show _=_ by rw[Af,if_pos h4]);clear Af;go_enter Tryz.func24,Tryz.ntmps24;go_wp2_with fail;obtain⟨W0,hW0⟩:=qE ((w.alloc (.cells #[.slice an NN cn,.slice af NF cf,.slice ax NX cx,.slice ap NP cp,.slice aS NS cs] 30)).alloc (.cells #[.slice none 0 0,.slice none 0 0,.slice none 0 0,.slice none 0 0,.slice none 0 0] 30));rw[<- hW0];have hB0:Bq w W0:=by rw[hW0];exact ((Below.refl _ w).alloc (Nat.le_refl _) _).alloc (by simp) _
   have hX0:BX W0 w.heap.size (.slice an NN cn) (.slice af NF cf) (.slice ax NX cx) (.slice ap NP cp) (.slice aS NS cs):=by rw[hW0];exact⟨heap_alloc2_old _ _ _,heap_alloc2_new _ _ _⟩
   refine Calls.mono (HCK.out W0 hB0) ?_;rintro e w1 ⟨rfl,hb1⟩;have HB1:Hid (Bq w w1):=hB0.trans (hb1.mono hB0.size);have hX1:=BX.below hX0 hb1;obtain⟨y0,y1,y2,y3,y4,yf⟩:=j6 hX1.2;have yf0:=yf 0;have yf1:=yf 1;have yf2:=yf 2;have yf3:=yf 3;have yf4:=yf 4;clear hW0 hB0 hX0 hb1 hX1 HCK yf Ia Fg Lh HQ;go_wp2_with fail;(try simp only[Exit.inBlock,Exit.then])
   refine bodyPost_ret (v:=.tuple #[.agg #[.slice none 0 0,.slice none 0 0,.slice none 0 0,.slice none 0 0,.slice none 0 0],.slice none 0 0,.int .i64 2]) ?_ rfl ?_
   . rw[o8 rfl];go_simp
   . rw[Bw.out];exact⟨_,_,rfl,J4.zero _ _,rnil,by repeat (first | refine Below.setCell ?_ (by simp) _ | exact HB1.out)⟩
  .
   have Bw:Hid (RES=((l9 M l).1,(l9 M l).2,0)):=(show _=_ by rw[Af,if_neg h4]);clear Af;go_enter Tryz.func24,Tryz.ntmps24;go_wp2_with fail;obtain⟨W0,hW0⟩:=qE ((w.alloc (.cells #[.slice an NN cn,.slice af NF cf,.slice ax NX cx,.slice ap NP cp,.slice aS NS cs] 30)).alloc (.cells #[.slice none 0 0,.slice none 0 0,.slice none 0 0,.slice none 0 0,.slice none 0 0] 30));rw[<- hW0];have hB0:Bq w W0:=by rw[hW0];exact ((Below.refl _ w).alloc (Nat.le_refl _) _).alloc (by simp) _
   have hX0:BX W0 w.heap.size (.slice an NN cn) (.slice af NF cf) (.slice ax NX cx) (.slice ap NP cp) (.slice aS NS cs):=by rw[hW0];exact⟨heap_alloc2_old _ _ _,heap_alloc2_new _ _ _⟩
   refine Calls.mono (HCK.out W0 hB0) ?_;rintro e w1 ⟨rfl,hb1⟩;have HB1:Hid (Bq w w1):=hB0.trans (hb1.mono hB0.size);have hX1:=BX.below hX0 hb1;obtain⟨x0,x1,x2,x3,x4,_⟩:=j6 hX1.1;have HX1:=qH hX1;clear hW0 hB0 hX0 hb1 hX1 HCK;go_wp2_with fail;refine Calls.mono (Ia.out w1 HB1.out) ?_;rintro e w2 ⟨D,r,rfl,hR2,hD,hb2⟩;have hB2:Bq w w2:=HB1.out.trans (hb2.mono HB1.out.size);have hX2:BX w2 w.heap.size (.slice an NN cn) (.slice af NF cf) (.slice ax NX cx) (.slice ap NP cp) (.slice aS NS cs):=BX.below HX1.out hb2;have HDX:Hid (w.heap.size+2<=D):=(show _<=_ by have:=BX.lt HX1.out;omega);obtain⟨hR3,hD3⟩:=bI1 (n:=n) hR2;obtain⟨i0,hi,hi0,hi1,hi2⟩:=info_parts bI3;have hmk:∀(W:World),(Instr.makeSlice 46 (.int .i64 (n:Int)) (.int .i64 (n:Int))).run Tryz.prog W=.ok (.slice (some ⟨W.heap.size,0,none⟩) n n) (W.alloc (.cells (Zs (List.replicate n 0)).toArray 32)):=fun W=>by
    have:=run_makeSlice (P:=Tryz.prog) W 46 32 i0 (.int .i64 0) Tryz.underlying46 hi hi0 .i64 .i64 (n:Int) (n:Int) (by omega) (by omega) (by rw[hi1];omega) (by rw[hi2];omega) (by omega);rw[hi1,Int.toNat_natCast,Nat.mul_one] at this;rw[this];have e:madeCells (Value.int .i64 0).cells n=(Zs (List.replicate n 0)).toArray:=by apply Array.toList_inj.1;have h1:=toList_madeCells_one (.int .i64 0) n;show (madeCells #[Value.int .i64 0] n).toList=_;rw[h1];simp[Zs]
    rw[e]
   obtain⟨B,hB⟩:=qE w2.heap.size;obtain⟨W3,hW3⟩:=qE (w2.alloc (.cells (Zs (List.replicate n 0)).toArray 32));have hb3:Bq w2 W3:=by rw[hW3];exact (Below.refl _ w2).alloc (Nat.le_refl _) _
   have HR3:Hid (l6 (aq9 B (List.replicate n 0)) W3 D r M):=(show l6 _ _ _ _ _ by rw[hB,hW3];exact hR3);have HB3:Hid (Bq w W3):=hB2.trans (hb3.mono hB2.size);have HX3:Hid (BX W3 w.heap.size (.slice an NN cn) (.slice af NF cf) (.slice ax NX cx) (.slice ap NP cp) (.slice aS NS cs)):=BX.below hX2 hb3;have hmk2:(Instr.makeSlice 46 (.int .i64 (n:Int)) (.int .i64 (n:Int))).run Tryz.prog w2=.ok (.slice (some ⟨B,0,none⟩) n n) W3:=by rw[hmk w2,hB,hW3]
   clear hR2 hD hb2 hX2 HX1 x0 x1 x2 x3 x4 Ia hmk hR3 hD3 hW3 hb3 hB2 hB hi hi0 hi1 hi2;go_wp2_with fail;clear hmk2;go_loopw [29] (fun z wr=>∃k:Nat,k<=n/\z=.int .i64 k/\Hid (l6 (aq9 B ((l9 M (l.take k)).2++List.replicate (n-k) 0)) wr D r (l9 M (l.take k)).1)/\Hid (BX wr w.heap.size (.slice an NN cn) (.slice af NF cf) (.slice ax NX cx) (.slice ap NP cp) (.slice aS NS cs))/\Hid (Bq w wr)) (fun z _=>n-(intOf z).toNat)
   case atStart=>exact⟨0,Nat.zero_le _,rfl,HR3,HX3,HB3⟩
   case round=>
    obtain⟨k,hk,rfl,hR,hX,hBw⟩:=hrel;clear HR3 HX3 HB3;by_cases hlt:k<n
    .
     obtain⟨i,hi⟩:∃i,l[k]? = some i:=⟨_,gEl (by have:=HN.out;omega)⟩;obtain⟨bq,oq,rfl,hcq⟩:=bf2 (HQ.out.below hBw.out) (j:=k) (u:=.int .i64 i) (by simp[Zs,hi]);have HC:Hid _:=Fg.out B _ D r _ i wr hR.out (Lh.out k) (by have:=HDX.out;omega) hBw.out;have HNX:Hid _:=bX6 (M:=M) HN.out hlt hi;obtain⟨E,hEe⟩:=qE ((stepS (l9 M (l.take k)).1 i).2);rw[<- hEe] at HC HNX;clear hR hi hEe;go_wp2_with fail;refine Calls.mono HC.out ?_;rintro e w3 ⟨rfl,hR3,hb3⟩;obtain⟨s1,s2,s3⟩:=hR3.said;have hll:((l9 M (l.take k)).2++List.replicate (n-k) (0:Int)).length=n:=by rw[List.length_append,aq0,List.length_take,List.length_replicate];have:=HN.out;omega
     obtain⟨c0,c1⟩:=bX5 (k:=k) s1 (by rw[hll];exact hlt)
     have HR4:Hid (l6 (aq9 B ((l9 M (l.take (k+1))).2++List.replicate (n-(k+1)) 0)) (w3.setCell ⟨B,k,none⟩ (.int .i64 E)) D r (l9 M (l.take (k+1))).1):=(show l6 _ _ _ _ _ by
      rw[<- HNX.out.1,HNX.out.2]
      exact (ck9 hR3).1)
     have HB4:Hid (Bq w (w3.setCell ⟨B,k,none⟩ (.int .i64 E))):=(show Below _ _ _ from Below.setCell (hBw.out.trans (hb3.mono (by have:=HDX.out;omega))) (show w.heap.size<=B by have:=HDX.out;omega) _);have HX4:Hid (BX (w3.setCell ⟨B,k,none⟩ (.int .i64 E)) w.heap.size (.slice an NN cn) (.slice af NF cf) (.slice ax NX cx) (.slice ap NP cp) (.slice aS NS cs)):=(show BX _ _ _ _ _ _ _ from BX.other (BX.keep hX.out (fun j hj=>hb3.block j (by have:=HDX.out;omega))) (show w.heap.size+1<B by have:=HDX.out;omega));generalize ((l9 M (l.take k)).2++List.replicate (n-k) (0:Int))[k]'(by rw[hll];exact hlt)=cold at c0;clear hR3 hb3 HC s1 s2 s3 hll;go_wp2_with fail;go_roundw
     case rel=>exact⟨k+1,by omega,by go_num,HR4,HX4,HB4⟩
     case measure=>simp[intOf];omega
    .
     have e:k=n:=by omega
     subst e;have HTK:Hid (l.take k=l):=(show _=_ from List.take_of_length_le (by have:=HN.out;omega));have hR3:l6 (aq9 B (l9 M l).2) wr D r (l9 M l).1:=by have:=hR.out;rw[HTK.out,Nat.sub_self] at this;simpa using this
     obtain⟨s1,s2,s3⟩:=hR3.said;obtain⟨hrD,bn,bf,bx,bp,bS,dn,df,dx,dp,ds,vI,vM,Bc,hRM⟩:=l6.machX hR3;have hX3:=hX.out;have HRM:Hid (∀(w':World),w'.heap.size=wr.heap.size->(∀k,k≠w.heap.size+1->w'.heap[k]? = wr.heap[k]?)->ac0 w.heap.size w' bn bf bx bp bS dn df dx dp ds (l9 M l).1):=(show ∀(w':World),_ from fun w' h1 h2=>ap8 hRM (by have:=HDX.out;omega) (bm1 hX3) (by omega) h1 h2)
     have HSD:Hid (∀(w':World),(∀k,k≠w.heap.size+1->w'.heap[k]? = wr.heap[k]?)->Reads w' (.slice (some ⟨B,0,none⟩) k k) (l9 M l).2.length (Zs (l9 M l).2)):=(show ∀(w':World),_ from fun w' h2=>by
      have e1:(l9 M l).2.length=k:=by rw[aq0];exact HN.out.symm
      have:=bI2 (w:=w') (l:=(l9 M l).2) ((h2 B (by have:=HDX.out;omega)).trans s1) (by omega)
      rw[e1] at this ⊢
      exact this)
     obtain⟨c0,c1,c2,c3,c4,_,_⟩:=O5 Bc;have hrw:r≠w.heap.size+1:=by have:=HDX.out;omega
     have hrw':w.heap.size+1≠r:=by omega
     obtain⟨y0,y1,y2,y3,y4,yf⟩:=j6 hX3.2;have yf0:=yf 0;have yf1:=yf 1;have yf2:=yf 2;have yf3:=yf 3;have yf4:=yf 4;generalize hn5:(l9 M l).1.ns.length=N5 at *;generalize hf5:(l9 M l).1.fs.length=F5 at *;generalize hx5:(l9 M l).1.pipes.length=X5 at *;generalize hp5:(l9 M l).1.ps.length=P5 at *;generalize hs5:(l9 M l).1.sunk.length=S5 at *;clear hR hX hR3 hX3 Bc hRM yf s1 s2 s3 Fg Lh;go_wp2_with fail;(try simp only[Exit.inBlock,Exit.then])
     refine bodyPost_ret (v:=.tuple #[.agg #[.slice bn N5 dn,.slice bf F5 df,.slice bx X5 dx,.slice bp P5 dp,.slice bS S5 ds],.slice (some ⟨B,0,none⟩) k k,.int .i64 0]) ?_ rfl ?_
     . rw[o8 rfl];go_simp
     . rw[Bw.out];refine⟨.agg #[.slice bn N5 dn,.slice bf F5 df,.slice bx X5 dx,.slice bp P5 dp,.slice bS S5 ds],.slice (some ⟨B,0,none⟩) k k,rfl,?_,?_,?_⟩
       . exact⟨bn,bf,bx,bp,bS,dn,df,dx,dp,ds,by unfold machV;rw[hn5,hf5,hx5,hp5,hs5],HRM.out _ (by simp) (fun k hk=>by
          rw[Below.heap_setCell _ _ _ _ hk,Below.heap_setCell _ _ _ _ hk,Below.heap_setCell _ _ _ _ hk,Below.heap_setCell _ _ _ _ hk,Below.heap_setCell _ _ _ _ hk])⟩
       . exact HSD.out _ (fun k hk=>by
          rw[Below.heap_setCell _ _ _ _ hk,Below.heap_setCell _ _ _ _ hk,Below.heap_setCell _ _ _ _ hk,Below.heap_setCell _ _ _ _ hk,Below.heap_setCell _ _ _ _ hk])
       . repeat (first | refine Below.setCell ?_ (by simp) _ | exact hBw.out)
 .
  obtain⟨K,hK⟩:=qE (mchk M);rw[<- hK] at HCK h0;rw[if_pos (by rw[<- hK];exact h0)] at Af;rw[<- hK] at Af;have Bw:=qH Af;clear HST HSP HTO Af hK HQ;go_enter Tryz.func24,Tryz.ntmps24;go_wp2_with fail;obtain⟨W0,hW0⟩:=qE ((w.alloc (.cells #[.slice an NN cn,.slice af NF cf,.slice ax NX cx,.slice ap NP cp,.slice aS NS cs] 30)).alloc (.cells #[.slice none 0 0,.slice none 0 0,.slice none 0 0,.slice none 0 0,.slice none 0 0] 30));rw[<- hW0];have hB0:Bq w W0:=by rw[hW0];exact ((Below.refl _ w).alloc (Nat.le_refl _) _).alloc (by simp) _
  have hX0:BX W0 w.heap.size (.slice an NN cn) (.slice af NF cf) (.slice ax NX cx) (.slice ap NP cp) (.slice aS NS cs):=by rw[hW0];exact⟨heap_alloc2_old _ _ _,heap_alloc2_new _ _ _⟩
  refine Calls.mono (HCK.out W0 hB0) ?_;rintro e w1 ⟨rfl,hb1⟩;have HB1:Hid (Bq w w1):=hB0.trans (hb1.mono hB0.size);have hX1:=BX.below hX0 hb1;obtain⟨y0,y1,y2,y3,y4,yf⟩:=j6 hX1.2;have yf0:=yf 0;have yf1:=yf 1;have yf2:=yf 2;have yf3:=yf 3;have yf4:=yf 4;clear hW0 hB0 hX0 hb1 hX1 HCK yf;go_wp2_with fail;(try simp only[Exit.inBlock,Exit.then])
  refine bodyPost_ret (v:=.tuple #[.agg #[.slice none 0 0,.slice none 0 0,.slice none 0 0,.slice none 0 0,.slice none 0 0],.slice none 0 0,.int .i64 K]) ?_ rfl ?_
  . rw[o8 rfl];go_simp
  . rw[Bw.out];exact⟨_,_,rfl,J4.zero _ _,rnil,by repeat (first | refine Below.setCell ?_ (by simp) _ | exact HB1.out)⟩
end Go.Proofs.YtllgglolcgdehaaGreatDoor
