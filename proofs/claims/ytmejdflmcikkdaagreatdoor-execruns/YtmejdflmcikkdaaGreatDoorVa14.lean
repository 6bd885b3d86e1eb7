/- What the developers' checkUsed, checkNode and hasPort do, and more. -/
import Derived.Test.YtmejdflmcikkdaaGreatDoorVAb
import Derived.Test.YtmejdflmcikkdaaGreatDoorVa13
import Derived.Test.YtmejdflmcikkdaaGreatDoorVa12
set_option linter.all false
set_option maxRecDepth 100000
set_option maxHeartbeats 64000000
namespace Go.Proofs.YtmejdflmcikkdaaGreatDoor
open Go.RowKit Go.Gs Tryz
variable {n:SNode}{w w':World}{a x0 x1 x2 x3 x4 x5 x6 x7:Value}{ns ahead r:List SNode}{p:Int × Int}{i b k:Nat}{q:Int}{R:Value->Option (DataW Unit × List MemPlace)}{t ps t':List (Int × Int)}{D d:DataW Unit}{o:Obj}{row:Option Nat}
theorem bM4(h:n.kind=1\/n.kind=5):A7 n=if isWord n.file then 0 else 1:=by unfold A7;rw[qF h]
theorem bM5(h:n.kind=2):A7 n=if n.wide<1\/5<n.wide then 3 else 0:=by unfold A7;rw[qB qO,qF h]
theorem bM6(h:n.kind=3):A7 n=chk n.c:=by unfold A7;rw[qB qO,qB qO,qF h]
theorem bM7(h:n.kind=4):A7 n=jchk n.how n.c:=by unfold A7;rw[qB qO,qB qO,qB qO,qF h]
theorem bM8(h1:n.kind≠1)(h2:n.kind≠2)(h3:n.kind≠3)(h4:n.kind≠4)(h5:n.kind≠5):A7 n=4:=by unfold A7;rw[qB qO,qB h2,qB h3,qB h4]
theorem bf5(n:SNode)(ai:Option Addr)(ni ci:Nat)(w:World)(Ad:G8 n):
 Calls prog 128 #[x8 n ai ni ci] w fun e w'=>e=.returned (.int .i64 (A7 n))/\Bq w w':=by
 have Fh:=fun W=>be1 n.file W Ad.1;have Dq:=fun W=>aM0 n.c W Ad.2.1;have Fj:=fun W=>aX4 n.how n.c W Ad.2.1;unfold Cmd.v at Dq Fj;obtain⟨u,hu⟩:=qE (A7 n);rw[<- hu];by_cases h15:n.kind=1\/n.kind=5
 .
  rw[bM4 h15]at hu;unfold x8;generalize isWord n.file=d,(⟨n.file.toArray⟩:ByteArray)=fx,(⟨n.c.word.toArray⟩:ByteArray)=wx,n.c.kind=ck,n.c.n=cn,n.how=hw,n.wide=wd,n.kind=k at *;clear Dq Fj Ad;rcases h15 with rfl | rfl
  . cases d with
    | true=>simp only[if_true]at hu;subst hu;go_enter func128,ntmps128;go_wp2_with fail;refine (Fh _).mono ?_;rintro e w1⟨rfl,rfl⟩;go_wp2_with fail;go_ret;exact⟨rfl,g9⟩
    | false=>simp only[zy,if_false]at hu;subst hu;go_enter func128,ntmps128;go_wp2_with fail;refine (Fh _).mono ?_;rintro e w1⟨rfl,rfl⟩;go_wp2_with fail;go_ret;exact⟨rfl,g9⟩
  . cases d with
    | true=>simp only[if_true]at hu;subst hu;go_enter func128,ntmps128;go_wp2_with fail;refine (Fh _).mono ?_;rintro e w1⟨rfl,rfl⟩;go_wp2_with fail;go_ret;exact⟨rfl,g9⟩
    | false=>simp only[zy,if_false]at hu;subst hu;go_enter func128,ntmps128;go_wp2_with fail;refine (Fh _).mono ?_;rintro e w1⟨rfl,rfl⟩;go_wp2_with fail;go_ret;exact⟨rfl,g9⟩
 .
  by_cases h2:n.kind=2
  .
   rw[bM5 h2]at hu;unfold x8;rw[h2];generalize (⟨n.file.toArray⟩:ByteArray)=fx,(⟨n.c.word.toArray⟩:ByteArray)=wx,n.c.kind=ck,n.c.n=cn,n.how=hw,n.wide=wd at *;clear Dq Fj Fh Ad h15 h2;by_cases g1:wd<1
   . rw[qF (.inl g1)]at hu;subst hu;go_enter func128,ntmps128;go_wp2_with fail;go_ret;exact⟨rfl,g9⟩
   . by_cases g5:5<wd
     . rw[qF (.inr g5)]at hu;subst hu;go_enter func128,ntmps128;go_wp2_with fail;go_ret;exact⟨rfl,g9⟩
     . rw[qB qO]at hu;subst hu;go_enter func128,ntmps128;go_wp2_with fail;go_ret;exact⟨rfl,g9⟩
  .
   by_cases h3:n.kind=3
   . rw[bM6 h3]at hu;rw[<- hu]at Dq;unfold x8;rw[h3];generalize (⟨n.file.toArray⟩:ByteArray)=fx,(⟨n.c.word.toArray⟩:ByteArray)=wx,n.c.kind=ck,n.c.n=cn,n.how=hw,n.wide=wd at *;clear Fj Fh Ad h15 h2 h3 hu;go_enter func128,ntmps128;go_wp2_with fail;refine (Dq _).mono ?_;rintro e w1⟨rfl,hb1⟩;have HB:Hid (Bq w w1):=g9.trans (hb1.mono (by simp));clear hb1 Dq;go_wp2_with fail;go_ret;exact⟨rfl,HB.o⟩
   .
    by_cases h4:n.kind=4
    . rw[bM7 h4]at hu;rw[<- hu]at Fj;unfold x8;rw[h4];generalize (⟨n.file.toArray⟩:ByteArray)=fx,(⟨n.c.word.toArray⟩:ByteArray)=wx,n.c.kind=ck,n.c.n=cn,n.how=hw,n.wide=wd at *;clear Dq Fh Ad h15 h2 h3 h4 hu;go_enter func128,ntmps128;go_wp2_with fail;refine (Fj _).mono ?_;rintro e w1⟨rfl,hb1⟩;have HB:Hid (Bq w w1):=g9.trans (hb1.mono (by simp));clear hb1 Fj;go_wp2_with fail;go_ret;exact⟨rfl,HB.o⟩
    .
     rw[bM8 qO h2 h3 h4 qO]at hu;subst hu;unfold x8;generalize (⟨n.file.toArray⟩:ByteArray)=fx,(⟨n.c.word.toArray⟩:ByteArray)=wx,n.c.kind=ck,n.c.n=cn,n.how=hw,n.wide=wd,n.kind=k at *;have e1:(k==1)=false:=by simp;omega
     have e2:(k==2)=false:=by simp;omega
     have e3:(k==3)=false:=by simp;omega
     have e4:(k==4)=false:=by simp;omega
     have e5:(k==5)=false:=by simp;omega
     clear Dq Fh Ad Fj;go_enter func128,ntmps128;go_wp2_with fail;go_ret;exact⟨rfl,g9⟩
theorem U5{b c d e f g h:Value}{t:TypeId}(hb:Below (w.alloc (.cells #[a,b,c,d,e,f,g,h] t)).heap.size (w.alloc (.cells #[a,b,c,d,e,f,g,h] t)) w'):
 w'.cell? ⟨w.heap.size,0,none⟩=some a/\w'.cell? ⟨w.heap.size,1,none⟩=some b/\w'.cell? ⟨w.heap.size,2,none⟩=some c/\w'.cell? ⟨w.heap.size,3,none⟩=some d/\w'.cell? ⟨w.heap.size,4,none⟩=some e/\w'.cell? ⟨w.heap.size,5,none⟩=some f/\w'.cell? ⟨w.heap.size,6,none⟩=some g/\w'.cell? ⟨w.heap.size,7,none⟩=some h:=by
 refine⟨?_,?_,?_,?_,?_,?_,?_,?_⟩
 all_goals
  rw[hb.cell (by simp),qY _ _ _ _ _ _ (qJ w _)];rfl
theorem bf6{n:SNode}(h:A7 n≠0):q9 n=A7 n:=by unfold q9;rw[qF h]
theorem bf7{n:SNode}(h:A7 n=0):q9 n=if (!S1 n.kind n.ins.length || Z0 n)=true then 4 else 0:=by unfold q9;rw[qB (by simp[h])]
theorem az8(n:SNode)(ai:Option Addr)(ci:Nat)(w:World)(Ad:G8 n)(hl:n.ins.length<=9223372036854775807):
 Calls prog 99 #[x8 n ai n.ins.length ci] w fun e w'=>e=.returned (.int .i64 (q9 n))/\Bq w w':=by
 have HU:Hid _:=fun W=>bf5 n ai n.ins.length ci W Ad;have HM:Hid _:=fun W=>by3 n.kind n.ins.length W hl;have HH:Hid _:=fun W=>be8 n ai n.ins.length ci W;obtain⟨r,hr⟩:=qE (q9 n);rw[<- hr];have HR:=qH hr;obtain⟨u,hu⟩:=qE (A7 n);have HUU:=qH hu;have HF:Hid _:=@bf7 n;have HG:Hid _:=@bf6 n;rw[<- hu]at HU HF HG;unfold x8 at HU HH ⊢;generalize S1 n.kind n.ins.length=mh,Z0 n=hu2,(⟨n.file.toArray⟩:ByteArray)=fx,(⟨n.c.word.toArray⟩:ByteArray)=wx,n.c.kind=ck,n.c.n=cn,n.how=hw,n.wide=wd at *;generalize n.kind=k,n.ins.length=ni at *;clear hr hu Ad;go_enter func99,ntmps99;go_wp2_with fail;refine (HU.o _).mono ?_;rintro e w1⟨rfl,hb1⟩;obtain⟨x0,x1,x2,x3,x4,x5,x6,x7⟩:=U5 hb1;have HB1:Hid (Bq w w1):=g9.trans (hb1.mono (by simp));clear hb1 HU;by_cases hu0:u=0
 .
  subst hu0;have HE:=HF.o rfl;go_wp2_with fail;refine (HM.o _).mono ?_;rintro e w2⟨rfl,rfl⟩
  cases mh with
  | false=>
   have hr4:r=4:=by rw[HR.o,HE];rfl
   subst hr4;clear HE HF HG HM HH;go_wp2_with fail;go_ret;exact⟨rfl,HB1.o⟩
  | true=>
   have HE2:Hid _:=HE;clear HE HM HF HG;go_wp2_with fail;refine (HH.o _).mono ?_;rintro e w3⟨rfl,hb3⟩;have HB3:=qT HB1 hb3;clear hb3 HH
   cases hu2 with
   | true=>
    have hr4:r=4:=by rw[HR.o,HE2.o];rfl
    subst hr4;clear HE2;go_wp2_with fail;go_ret;exact⟨rfl,HB3.o⟩
   | false=>
    have hr4:r=0:=by rw[HR.o,HE2.o];rfl
    subst hr4;clear HE2;go_wp2_with fail;go_ret;exact⟨rfl,HB3.o⟩
 . have hru:r=u:=by rw[HR.o,HG.o hu0]
   subst hru;clear HF HG HM HH HUU HR;go_wp2_with fail;go_ret;exact⟨rfl,HB1.o⟩
theorem V5(n k:Nat)(w:World):Below n w (w.drewN k):=by
 induction k with
 | zero=>exact Below.refl _ _
 | succ k ih=>exact ih.drew
theorem ak2{b:Value}{t:TypeId}(hb:Below (w.alloc (.cells #[a,b] t)).heap.size (w.alloc (.cells #[a,b] t)) w'):w'.cell? ⟨w.heap.size,0,none⟩=some a/\w'.cell? ⟨w.heap.size,1,none⟩=some b:=by
 refine⟨?_,?_⟩
 all_goals
  rw[hb.cell (by simp),qY _ _ _ _ _ _ (qJ w _)];rfl
theorem aO2(h:¬0<=p.1):I1 ns p=false:=by unfold I1;rw[qG h];rfl
theorem aO3(h:¬p.1<ns.length):I1 ns p=false:=by unfold I1;rw[qG h];simp
theorem aO4(h:¬0<=p.2):I1 ns p=false:=by unfold I1;rw[qG h];simp
theorem aX6(hn:ns[i]?=some n)(h:0<=q):I1 ns ((i:Int),q)=decide (q<nouts n):=by have hi:i<ns.length:=(gSm hn).1;unfold I1;simp only[qh,hn,xG,zE];rw[qV (by omega:(0:Int)<=(i:Int)),qV (by omega:(i:Int)<(ns.length:Int)),qV h];simp
theorem by9(ns:List SNode)(ao:Option Addr)(cap:Nat)(p q:Int)(w:World)(hr:y8 w (.slice ao ns.length cap) ns):
 Calls prog 100 #[.slice ao ns.length cap,.agg #[.int .i64 p,.int .i64 q]] w fun e w'=>e=.returned (.bool (I1 ns (p,q)))/\Bq w w':=by
 have hle:=M5 hr;have HR:=qH hr;obtain⟨N,hN⟩:=qE ns.length;have HN:=qH hN;obtain⟨r,hrr⟩:=qE (I1 ns (p,q));have HRR:=qH hrr;rw[<- hN,<- hrr];rw[<- hN]at HR hle;clear hr hN hrr;by_cases h0:0<=p
 .
  by_cases hlt:p<N
  .
   by_cases hq:0<=q
   . obtain⟨i,rfl⟩:=qm h0;obtain⟨n,hn⟩:∃n,ns[i]?=some n:=⟨_,gEl (by have:=HN.o;omega)⟩;obtain⟨b,off,ai,ci,rfl,⟨c0,c1,c2,c3,c4,c5,c6,c7⟩,_⟩:=HR.o.at hn;have hrv:r=decide (q<nouts n):=by rw[HRR.o,aX6 hn hq]
     have g0:decide ((0:Int)<=(i:Int))=true:=qV h0;have g1:decide ((i:Int)<(N:Int))=true:=qV hlt;have g2:decide (0<=q)=true:=qV hq;have cF:∀d os,Calls prog 27 #[x8 n ai n.ins.length ci] (Go.Sort.grow (redrawn (w.alloc (.cells #[.int .i64 (i:Int),.int .i64 q] 74)) d) os) fun e w''=>e=.returned (.int .i64 (nouts n))/\∃p:Regrown,w''=Go.Sort.grow (redrawn (w.alloc (.cells #[.int .i64 (i:Int),.int .i64 q] 74)) p.d) p.os:=fun d os=>Calls.regrown_of (aI0 n ai n.ins.length ci _);have hbx:∀{a:Addr}{v:Value},w.cell? a=some v->∀d os,(Go.Sort.grow (redrawn (w.alloc (.cells #[.int .i64 (i:Int),.int .i64 q] 74)) d) os).cell? a=some v:=fun h d os=>cell_regrown (qC g9 h) d os;have k0:=hbx c0;have k1:=hbx c1;have k2:=hbx c2;have k3:=hbx c3;have k4:=hbx c4;have k5:=hbx c5;have k6:=hbx c6;have k7:=hbx c7;obtain⟨y0,y1⟩:=ak2 (w:=w) (a:=.int .i64 (i:Int)) (b:=.int .i64 q) (t:=74) (Below.refl _ _);have z0:=fun d os=>cell_regrown y0 d os;have z1:=fun d os=>cell_regrown y1 d os;unfold x8 at cF;generalize nouts n=no,(⟨n.file.toArray⟩:ByteArray)=fx,(⟨n.c.word.toArray⟩:ByteArray)=wx,n.c.kind=ck,n.c.n=cn,n.how=hw,n.wide=wd,n.kind=k,n.ins.length=ni at *;clear c0 c1 c2 c3 c4 c5 c6 c7 hbx HR HRR hn;subst hrv;go_enter func100,ntmps100;go_wp2_with fail;refine wp_region_quiet_below qQ qQ ?_;repeat (first|go_big_quiet_step (exact cF _ _) | quiet_step (exact cF _ _))
     refine wpQuiet_nil ?_;intro _ hw';obtain⟨⟨dq,osq⟩,Av⟩:=hw';subst Av;clear cF k0 k1 k2 k3 k4 k5 k6 k7 z0 z1 y0 y1;go_wp2_with fail;go_ret;exact⟨rfl,g9.trans ((below_regrown _ dq osq).mono (by simp))⟩
   . have hrf:r=false:=by rw[HRR.o,aO4 hq]
     subst hrf;have g0:decide (0<=p)=true:=qV h0;have g1:decide (p<(N:Int))=true:=qV hlt;have g2:decide (0<=q)=false:=qG hq;clear HR HRR;go_enter func100,ntmps100;go_wp2_with fail;go_quiet (fail);go_wp2_with fail;go_ret;exact⟨rfl,g9.trans (V5 _ _ _)⟩
  . have hrf:r=false:=by rw[HRR.o,aO3 (by rw[<- HN.o];exact hlt)]
    subst hrf;have g0:decide (0<=p)=true:=qV h0;have g1:decide (p<(N:Int))=false:=qG hlt;clear HR HRR;go_enter func100,ntmps100;go_wp2_with fail;go_quiet (fail);go_wp2_with fail;go_ret;exact⟨rfl,g9.trans (V5 _ _ _)⟩
 . have hrf:r=false:=by rw[HRR.o,aO2 h0]
   subst hrf;have g0:decide (0<=p)=false:=qG h0;clear HR HRR;go_enter func100,ntmps100;go_wp2_with fail;go_quiet (fail);go_wp2_with fail;go_ret;exact⟨rfl,g9.trans (V5 _ _ _)⟩
theorem aw5(hb:Bq w w'):w.grownBy w' none:=⟨hb.os,hb.tape,hb.output,hb.size,fun k hk _=>hb.block k hk⟩
theorem K3.below{n:Nat}(h:K3 w R b n t)(hb:Bq w w'):K3 w' R b n t:=by obtain⟨D,h1,h2⟩:=h;exact⟨D,h1.kept (aw5 hb) (by simp),h2⟩
theorem K3.put{W:World}{n:Nat}(h1:w.ownsMap prog 74 R b n D)(h2:∀p,WfP p->Go.Maps.has D (ae4 p)=decide (p∈t))(h3:Go.Maps.size D=t.length)(h4:∀p∈t,WfP p)
 (hp:WfP p) (hn:p∉t) (ho:w'.ownsMap prog 74 R b (n+1) (D.put (ae4 p) d)):K3 w' R b (n+1) (t++[p]):=by
 refine⟨_,ho,fun q hq=>?_,?_,?_⟩
 .
  by_cases e:q=p
  . subst e;rw[Go.Maps.has_put_same h1.isMap (aU5 w q hq)];simp
  . rw[Go.Maps.has_put_other (fun h=>e (aB9 w hq hp h)),h2 q hq];simp[e]
 . rw[Go.Maps.size_put (h1.tidy J5),h2 p hp,qG hn,h3];simp
 . intro q hq;rcases xY.1 hq with hq | hq
   . exact h4 q hq
   . rw[zC.1 hq];exact hp
theorem bz0(w:World)(o:Obj)(R:Value->Option (DataW Unit × List MemPlace)):K3 ((w.alloc o).alloc (.map #[] 0)) R (w.heap.size+1) 0 []:=by refine⟨.map [],?_,fun p _=>by simp[Go.Maps.has],by simp[Go.Maps.size],by simp⟩;have:=World.ownsMap_made (w.alloc o) prog 74 R;simpa using this
theorem aX7{w1 w2:World}(h:Below (w.heap.size+1) (w.alloc o) w1)(hg:w1.grownBy w2 (some (w.heap.size+1))):Below (w.heap.size+1) (w.alloc o) w2:=
 h.grown hg (by have:=h.size;simpa using this) (fun k hk=>by simp only[qe]at hk;omega)
theorem ai5{t:TypeId}(hb:Below (w.heap.size+1) (w.alloc (.cells #[a] t)) w'):w'.cell? ⟨w.heap.size,0,none⟩=some a:=by rw[hb.cell (by simp),qY _ _ _ _ _ _ (qJ w _)];rfl
def J4(w:World)(b:Nat)(x0 x1 x2 x3 x4 x5 x6 x7:Value):Prop:=
 w.cell? ⟨b,0,none⟩=some x0/\w.cell? ⟨b,1,none⟩=some x1/\w.cell? ⟨b,2,none⟩=some x2/\w.cell? ⟨b,3,none⟩=some x3/\w.cell? ⟨b,4,none⟩=some x4/\w.cell? ⟨b,5,none⟩=some x5/\w.cell? ⟨b,6,none⟩=some x6/\w.cell? ⟨b,7,none⟩=some x7
theorem J4.grown(h:J4 w b x0 x1 x2 x3 x4 x5 x6 x7)(hg:w.grownBy w' row)(hne:some b≠row):J4 w' b x0 x1 x2 x3 x4 x5 x6 x7:=by obtain⟨a0,a1,a2,a3,a4,a5,a6,a7⟩:=h;have hlt:b<w.heap.size:=bLt w _ a0;have k:∀(i:Nat)(v:Value),w.cell? ⟨b,i,none⟩=some v->w'.cell? ⟨b,i,none⟩=some v:=fun i v hv=>(show w'.cell? ⟨b,i,none⟩=w.cell? ⟨b,i,none⟩ from World.cell?_of_block (hg.block b hlt hne)).trans hv;exact⟨k 0 _ a0,k 1 _ a1,k 2 _ a2,k 3 _ a3,k 4 _ a4,k 5 _ a5,k 6 _ a6,k 7 _ a7⟩
theorem J4.below(h:J4 w b x0 x1 x2 x3 x4 x5 x6 x7)(hb:Bq w w'):J4 w' b x0 x1 x2 x3 x4 x5 x6 x7:=h.grown (aw5 hb) (by simp)
theorem az9(h:ns[k]?=some n):N3 (ns.take (k+1))=N3 (ns.take k)+nouts n:=by unfold N3;rw[ac3 h,xF,List.sum_append];simp
theorem ao8(h:q9 n=0):0<=nouts n/\nouts n<=5:=by
 obtain⟨h1,_,_⟩:=L2 h;unfold nouts;rcases N9 h1 with⟨h3 | h3,_⟩|⟨h3,h4,h5⟩|⟨h3,h4⟩|⟨h3,h4⟩
 . rw[qB qO,qB qO];omega
 . rw[qB qO,qF h3];omega
 . rw[qF h3];omega
 . rw[qB qO,qB qO];omega
 . rw[qB qO,qB qO];omega
theorem aX8(h:q9 n=0):n.ins.length<=5:=by
 obtain⟨h1,h2,_⟩:=L2 h;unfold S1 at h2;by_cases g1:n.kind=1
 . rw[qF g1]at h2;have:=qp h2;omega
 . rw[qB g1]at h2;by_cases g4:n.kind=4
   . rw[qF g4]at h2;exact (qp h2).2
   . rw[qB g4]at h2;have:=qp h2;omega
theorem aO5(h:y9 [] ns []=y9 ahead (n::r) t)(hn:q9 n≠0):(y9 [] ns []).1=q9 n:=by rw[h];unfold y9;rw[qF hn]
theorem aI1(h:y9 [] ns []=y9 ahead (n::r) t)(hn:q9 n=0)(hi:(A4 ahead n.ins t).1≠0):(y9 [] ns []).1=(A4 ahead n.ins t).1:=by rw[h];unfold y9;rw[qB (by simp[hn]),qF hi]
theorem aA0(h:y9 [] ns []=y9 ahead (n::r) t)(hn:q9 n=0)(hi:(A4 ahead n.ins t).1=0)(hl:r.isEmpty≠decide (n.kind=5)):(y9 [] ns []).1=4:=by rw[h];unfold y9;rw[qB (by simp[hn]),qB (by simp[hi]),qF hl]
theorem aA1(h:y9 [] ns []=y9 ahead (n::r) t)(hn:q9 n=0)(hi:(A4 ahead n.ins t).1=0)(hl:r.isEmpty=decide (n.kind=5)):y9 [] ns []=y9 (ahead++[n]) r (A4 ahead n.ins t).2:=by
 rw[h];conv=>lhs;unfold y9
 rw[qB (by simp[hn]),qB (by simp[hi]),qB (by simp[hl])]
theorem bF6{r:List (Int × Int)}(h:A4 ahead ps t=A4 ahead (p::r) t')(hp:I1 ahead p=false):(A4 ahead ps t).1=5:=by rw[h];unfold A4;rw[qF hp]
theorem aY0{r:List (Int × Int)}(h:A4 ahead ps t=A4 ahead (p::r) t')(hp:I1 ahead p=true)(ht:p∈t'):(A4 ahead ps t).1=6:=by rw[h];unfold A4;rw[qB (by simp[hp]),qF ht]
theorem bo6{r:List (Int × Int)}(h:A4 ahead ps t=A4 ahead (p::r) t')(hp:I1 ahead p=true)(ht:p∉t'):A4 ahead ps t=A4 ahead r (t'++[p]):=by
 rw[h];conv=>lhs;unfold A4
 rw[qB (by simp[hp]),qB ht]
theorem bo7(h:A4 ahead ps t=A4 ahead [] t'):A4 ahead ps t=(0,t'):=by rw[h];rfl
theorem aY1(h:60<ns.length):gchk ns=2:=by unfold gchk;rw[qF h]
theorem R1(h:ns.length<=60){r:Int}(hr:(y9 [] ns []).1=r)(h0:r≠0):gchk ns=r:=by unfold gchk;rw[qB qO,qF (by rw[hr];exact h0),hr]
theorem bo8(h:ns.length<=60)(hr:y9 [] ns []=(0,t)):gchk ns=if ns.length=0\/(t.length:Int)≠N3 ns then 4 else 0:=by unfold gchk;rw[qB qO,hr];simp
theorem aY2(h:ps[k]?=some p):ps.drop k=p::ps.drop (k+1):=by obtain⟨hk,e⟩:=gSm h;rw[<- e,<- qt hk]
open Go.Maps
theorem bo9(w:World):(zeroValue 3).run prog w=.ok (.int .i64 0) w:=qQ
theorem bW0(h:k<=60):(Lit.int .i64 (k:Int)).wf=true:=by simp[Lit.wf,IntKind.min,IntKind.max,IntKind.signed,IntKind.bits];omega
theorem aY3(ns:List SNode)(ao:Option Addr)(cap:Nat)(w:World)(hr:y8 w (.slice ao ns.length cap) ns)(Ad:∀n∈ns,G8 n):
 Calls prog 65 #[.agg #[.slice ao ns.length cap]] w fun e w'=>e=.returned (.int .i64 (gchk ns))/\Bq w w':=by
 have hle:=M5 hr;have HR:=qH hr;have Gz:=qH Ad;obtain⟨N,hN⟩:=qE ns.length;have HN:=qH hN;obtain⟨r,hrr⟩:=qE (gchk ns);have HRR:=qH hrr;rw[<- hN,<- hrr];rw[<- hN]at HR hle;clear hr hN hrr Ad;by_cases h60:60<N
 . have hr2:r=2:=by rw[HRR.o,aY1 (by rw[<- HN.o];exact h60)]
   subst hr2;have hq:(60:Int)<N:=qO;clear HR HRR;go_enter func65,ntmps65;go_wp2_with fail;go_ret;exact⟨rfl,g9⟩
 .
  have hq:¬(60:Int)<N:=qO;have Et:N<=60:=qO;have hmm:=@run_makeMap prog;go_enter func65,ntmps65;go_wp2_with fail;go_loopw [4,21] (fun ov i wr=>∃k:Nat,∃t:List (Int × Int),∃os:Nat,k<=N/\i=.int .i64 k/\ov=.int .i64 os/\os<=5*k/\Hid ((os:Int)=N3 (ns.take k))/\Hid (t.length<=5*k)/\Hid (y9 [] ns []=y9 (ns.take k) (ns.drop k) t)/\Hid (K3 wr (plainElem prog 3) (w.heap.size+1) t.length t)/\Hid (Below (w.heap.size+1) (w.alloc (.cells #[.slice ao N cap] 24)) wr)) (fun _ i _=>N-(intOf i).toNat)
  case atStart=>exact⟨0,[],0,qM _,rfl,rfl,qA _,(show _=_ from rfl),(show _<=_ from qA _),(show _=_ by simp),bz0 w _ _,(Below.refl _ _).alloc (by simp) _⟩
  case round=>
   obtain⟨k,t,os,hk,rfl,rfl,hos,HOS,HTL,HG,HPA,Aa⟩:=hrel;obtain⟨wo,hwo⟩:=qE wr;subst hwo;have hgx:=ai5 Aa.o;have HBW:Hid (Bq w wo):=g9.trans (Aa.o.mono (by simp));by_cases hlt:k<N
   .
    obtain⟨n,hn⟩:∃n,ns[k]?=some n:=⟨_,gEl (by have:=HN.o;omega)⟩;obtain⟨b,off,ai,ci,rfl,hNA,HP⟩:=HR.o.at hn;obtain⟨c0,c1,c2,c3,c4,c5,c6,c7⟩:=hNA.below HBW.o;have hil:=(S3 HP);have hfn:=Gz.o n (mGt hn);have HCN:Hid _:=fun W=>az8 n ai ci W hfn qO;obtain⟨nc,hnc⟩:=qE (q9 n);have HNC:=qH hnc;rw[<- hnc]at HCN;have HOU:Hid _:=fun W=>aI0 n ai n.ins.length ci W;have HDR:Hid (ns.drop k=n::ns.drop (k+1)):=aq4 hn;have HNN:=qH hn;have HFN:=qH hfn;obtain⟨nk,hnk⟩:=qE n.kind;have HNK:=qH hnk;obtain⟨ni,hni⟩:=qE n.ins.length;have HNI:=qH hni;have HPW:=qH HP;obtain⟨no,hno⟩:=qE (nouts n);have HNO:=qH hno;unfold x8 at HCN HOU;rw[<- hnk,<- hni]at HCN;rw[<- hnk,<- hni,<- hno]at HOU;rw[<- hni]at c7 hil HPW;rw[<- hnk]at c0;generalize (⟨n.file.toArray⟩:ByteArray)=fx,(⟨n.c.word.toArray⟩:ByteArray)=wx0,n.c.kind=ck,n.c.n=cn,n.how=hw,n.wide=wd at *;clear hn hfn hnc hnk hni HP hno hNA;go_wp2_with fail;refine (HCN.o _).mono ?_;rintro e w1⟨rfl,hb1⟩;have HC8:Hid (J4 w1 wo.heap.size (.int .i64 nk) (.string fx) (.int .i64 ck) (.string wx0) (.int .i64 cn) (.int .i64 hw) (.int .i64 wd) (.slice ai ni ci)):=U5 hb1;have HBX:Hid (Bq wo w1):=g9.trans (hb1.mono (by simp));have HB1:Hid (Below (w.heap.size+1) (w.alloc (.cells #[.slice (some ⟨b,off,none⟩) N cap] 24)) w1):=Aa.o.trans (HBX.o.mono (by have:=Aa.o.size;simpa using this));have Ib:Hid (K3 w1 (plainElem prog 3) (w.heap.size+1) t.length t):=HPA.o.below HBX.o;have HNB:=qH (show w.heap.size+1<wo.heap.size from by obtain⟨D,h1,_⟩:=HPA.o;exact h1.lt);clear hb1 HCN hgx c0 c1 c2 c3 c4 c5 c6 c7;by_cases Vt:nc=0
    .
     subst Vt;have hni5:ni<=5:=by rw[HNI.o];exact aX8 HNC.o.symm
     obtain⟨y0,y1,y2,y3,y4,y5,y6,y7⟩:=id HC8.o;go_wp2_with fail;go_loopw [34] (fun j wx=>∃m:Nat,∃t':List (Int × Int),m<=ni/\j=.int .i64 m/\Hid (t'.length<=5*k+m)/\Hid (A4 (ns.take k) n.ins t=A4 (ns.take k) (n.ins.drop m) t')/\Hid (K3 wx (plainElem prog 3) (w.heap.size+1) t'.length t')/\Hid (J4 wx wo.heap.size (.int .i64 nk) (.string fx) (.int .i64 ck) (.string wx0) (.int .i64 cn) (.int .i64 hw) (.int .i64 wd) (.slice ai ni ci))/\Hid (Below (w.heap.size+1) (w.alloc (.cells #[.slice (some ⟨b,off,none⟩) N cap] 24)) wx)) (fun j _=>ni-(intOf j).toNat)
     case atStart=>exact⟨0,t,qM _,rfl,HTL,(show _=_ by simp),Ib,HC8,HB1⟩
     case round=>
      clear Ib HC8 HB1 y0 y1 y2 y3 y4 y5 y6 y7;obtain⟨m,t',hm,rfl,Dx,HI,Dy,HC8,Aw⟩:=hrel;have hgx:=ai5 Aw.o;have Ep:Hid (Bq w wr):=g9.trans (Aw.o.mono (by simp));obtain⟨y0,y1,y2,y3,y4,y5,y6,y7⟩:=id HC8.o;by_cases Zw:m<ni
      .
       obtain⟨p,hp⟩:∃p,n.ins[m]?=some p:=⟨_,gEl (by have:=HNI.o;omega)⟩;have HBR:=qH Ep;obtain⟨pb,po,rfl,p0,p1⟩:=(D5.below HPW.o HBR.o).at hp;have Gj:WfP p:=HFN.o.2.2 p (mGt hp);have HDP:Hid (n.ins.drop m=p::n.ins.drop (m+1)):=aY2 hp;obtain⟨pp,pq⟩:=p;simp only at p0 p1;have HWP:=qH Gj;have Ot:(ns.take k).length=k:=by rw[qX];have:=HN.o;omega
       have HHP:Hid _:=fun(W:World)(hb:Bq w W)=>by9 (ns.take k) (some ⟨b,off,none⟩) cap pp pq W (by rw[Ot];exact (HR.o.below hb).take k (by have:=HN.o;omega));rw[Ot]at HHP;obtain⟨po2,Lr⟩:=qE (I1 (ns.take k) (pp,pq));have HPO:=qH Lr;rw[<- Lr]at HHP;have hkc:k<=cap:=qO;clear hp Gj Lr Ot;have hbx:Bq w (wr.alloc (.cells #[.int .i64 pp,.int .i64 pq] 74)):=HBR.o.trans (g9.mono HBR.o.size);have cF:∀d os,Calls prog 100 #[.slice (some ⟨b,off,none⟩) k cap,.agg #[.int .i64 pp,.int .i64 pq]] (Go.Sort.grow (redrawn (wr.alloc (.cells #[.int .i64 pp,.int .i64 pq] 74)) d) os) fun e w''=>e=.returned (.bool po2)/\∃p:Regrown,w''=Go.Sort.grow (redrawn (wr.alloc (.cells #[.int .i64 pp,.int .i64 pq] 74)) p.d) p.os:=fun d os=>Calls.regrown_of (HHP.o _ (hbx.trans ((below_regrown _ d os).mono hbx.size)));obtain⟨q0,q1⟩:=ak2 (w:=wr) (a:=.int .i64 pp) (b:=.int .i64 pq) (t:=74) (Below.refl _ _);have z0:=fun d os=>cell_regrown q0 d os;have z1:=fun d os=>cell_regrown q1 d os;have z2:=fun d os=>cell_regrown ((g9 (o:=.cells #[.int .i64 pp,.int .i64 pq] 74)).cell (bLt wr _ hgx) |>.trans hgx) d os;go_wp2_with fail;refine wp_region_quiet_below qQ qQ ?_;repeat (first|go_big_quiet_step (exact cF _ _) | quiet_step (exact cF _ _))
       refine wpQuiet_nil ?_;intro _ hw';obtain⟨⟨dq,osq⟩,Av⟩:=hw';subst Av;have HBQ:Hid (Bq wr (Go.Sort.grow (redrawn (wr.alloc (.cells #[.int .i64 pp,.int .i64 pq] 74)) dq) osq)):=g9.trans ((below_regrown _ dq osq).mono (by simp));have k0:=z0 dq osq;have k1:=z1 dq osq;clear cF z0 z1 z2 q0 q1 HHP hbx;generalize Go.Sort.grow (redrawn (wr.alloc (.cells #[.int .i64 pp,.int .i64 pq] 74)) dq) osq=wq at *;have Fq:Hid (Below (w.heap.size+1) (w.alloc (.cells #[.slice (some ⟨b,off,none⟩) N cap] 24)) wq):=Aw.o.trans (HBQ.o.mono (by have:=Aw.o.size;simpa using this));have Ic:Hid (K3 wq (plainElem prog 3) (w.heap.size+1) t'.length t'):=Dy.o.below HBQ.o;have Ie:Hid (J4 wq wo.heap.size (.int .i64 nk) (.string fx) (.int .i64 ck) (.string wx0) (.int .i64 cn) (.int .i64 hw) (.int .i64 wd) (.slice (some ⟨pb,po,none⟩) ni ci)):=HC8.o.below HBQ.o;clear HC8 Dy y0 y1 y2 y3 y4 y5 y6 y7 hgx p0 p1 Aw
       cases po2 with
       | false=>
        have hr5:r=5:=by have h5:=bF6 (HI.o.trans (by rw[HDP.o])) HPO.o.symm;rw[HRR.o,R1 (by rw[<- HN.o];exact Et) ((aI1 (HG.o.trans (by rw[HDR.o])) HNC.o.symm (by rw[h5];decide)).trans h5) (by decide)]
        subst hr5;have HBF:Hid (Bq w wq):=g9.trans (Fq.o.mono (by simp));clear Ic Ie Fq;go_wp2_with fail;go_ret;exact⟨rfl,HBF.o⟩
       | true=>
        obtain⟨D,Ab,Ef,Dh,Ou⟩:=id Ic.o;have Bw:keyOf prog 74 (.agg #[.int .i64 pp,.int .i64 pq])=some (ae4 (pp,pq)):=V9 wq (pp,pq) HWP.o;have hh:=Ef (pp,pq) HWP.o;have Ov:Hid _:=Ef;have Zx:Hid _:=Dh;have Ox:Hid _:=Ou;clear Ef Dh Ou;by_cases hin:(pp,pq)∈t'
        . have hr6:r=6:=by have h6:=aY0 (HI.o.trans (by rw[HDP.o])) HPO.o.symm hin;rw[HRR.o,R1 (by rw[<- HN.o];exact Et) ((aI1 (HG.o.trans (by rw[HDR.o])) HNC.o.symm (by rw[h6];decide)).trans h6) (by decide)]
          subst hr6;rw[qV hin]at hh;have HBF:Hid (Bq w wq):=g9.trans (Fq.o.mono (by simp));clear Ic Ie Fq;go_wp2_with (at_lookup;refine wpList_lookup_own_ok_int _ rfl _ _ 69 rfl 74 3 .i64 J5 underlying69 underlying3 (bo9 _) (w.heap.size+1) _ D rfl Ab _ _ rfl Bw ?_;intro cc hat hwc;rw[hh])
          go_ret;exact⟨rfl,HBF.o⟩
        .
         rw[qG hin]at hh;have hn0:t'.length<maxLen:=by have:=Dx.o;unfold maxLen;omega
         have hwk:=bW0 (show k<=60 by omega);have HI2:=qH (show A4 (ns.take k) n.ins t=A4 (ns.take k) (n.ins.drop (m+1)) (t'++[(pp,pq)]) from bo6 (HI.o.trans (by rw[HDP.o])) HPO.o.symm hin);have Fa:=qH (show (t'++[(pp,pq)]).length<=5*k+(m+1) by have:=Dx.o;simp;omega)
         go_wp2_with (first
          | (at_lookup;refine wpList_lookup_own_ok_int _ rfl _ _ 69 rfl 74 3 .i64 J5 underlying69 underlying3 (bo9 _) (w.heap.size+1) _ D rfl Ab _ _ rfl Bw ?_;intro cc hat hwc;rw[hh];clear hat hwc)
          | (at_mapUpdate;refine wpList_mapUpdate_own _ rfl _ _ _ 69 rfl 74 3 J5 underlying69 _ (w.heap.size+1) t'.length D rfl Ab hn0 _ _ _ rfl rfl Bw _ [] (plainElem_int underlying3 hwk) ?_;intro w5 ho5 hg5))
         have HP5:=qH (show K3 w5 (plainElem prog 3) (w.heap.size+1) (t'++[(pp,pq)]).length (t'++[(pp,pq)]) by
          have h:=K3.put (W:=w) Ab Ov.o Zx.o Ox.o HWP.o hin ho5
          simpa using h)
         have Rl:Hid (J4 w5 wo.heap.size (.int .i64 nk) (.string fx) (.int .i64 ck) (.string wx0) (.int .i64 cn) (.int .i64 hw) (.int .i64 wd) (.slice (some ⟨pb,po,none⟩) ni ci)):=Ie.o.grown hg5 (by simp only[ne_eq,qe];have:=HNB.o;omega);have HB5:Hid (Below (w.heap.size+1) (w.alloc (.cells #[.slice (some ⟨b,off,none⟩) N cap] 24)) w5):=aX7 Fq.o hg5;clear ho5 hg5 Ab Ov Zx Ox Ic Ie Fq Bw hh k0 k1;go_wp2_with fail;go_roundw
         case rel=>exact⟨m+1,_,qO,by go_num,Fa,HI2,HP5,Rl,HB5⟩
         case measure=>simp[intOf];omega
      .
       have hmn:m=ni:=qO;have HID:=qH (show A4 (ns.take k) n.ins t=(0,t') from bo7 (HI.o.trans (by rw[qi (by rw[<- HNI.o];omega)])));have As:(ns.drop (k+1)).isEmpty=decide ((k:Int)=(N:Int)-1):=by
        by_cases e:k+1=N
        . rw[qV qO,xl];exact List.drop_eq_nil_of_le (by rw[<- HN.o];omega)
        . rw[qG qO]
          cases hd:ns.drop (k+1) with
          | nil=>exact absurd (List.drop_eq_nil_iff.1 hd) (by rw[<- HN.o];omega)
          | cons a b=>rfl
       have HBF:=qH Ep;by_cases hk5:nk=5
       .
        subst hk5;by_cases hkl:k+1=N
        . have q1:((k:Int)==(N:Int)-1)=true:=by simp;omega
          have he:(ns.drop (k+1)).isEmpty=decide (n.kind=5):=by rw[As,qV qO,<- HNK.o];rfl
          have HG2:=qH (show y9 [] ns []=y9 (ns.take (k+1)) (ns.drop (k+1)) t' by
           rw[aA1 (HG.o.trans (by rw[HDR.o])) HNC.o.symm (by rw[HID.o]) he,HID.o,ac3 HNN.o])
          have Vu:=qH (show ((os:Int)+no)=N3 (ns.take (k+1)) by rw[az9 HNN.o,<- HOS.o,<- HNO.o]);have Fa:=qH (show t'.length<=5*(k+1) by have:=Dx.o;omega);have Ig:=ao8 HNC.o.symm;rw[<- HNO.o]at Ig;obtain⟨Ls,Ig⟩:=Ig;obtain⟨non,rfl⟩:=qm Ls;clear HG HOS HTL Dx HI HID As he HPA;go_wp2_with fail;refine (HOU.o _).mono ?_;rintro e w6⟨rfl,hb6⟩;have HB6:Hid (Below (w.heap.size+1) (w.alloc (.cells #[.slice (some ⟨b,off,none⟩) N cap] 24)) w6):=Aw.o.trans (hb6.mono (by have:=Aw.o.size;simpa using this));have Vv:Hid (K3 w6 (plainElem prog 3) (w.heap.size+1) t'.length t'):=Dy.o.below hb6;clear hb6 HOU HC8 Dy Aw hgx y0 y1 y2 y3 y4 y5 y6 y7;go_wp2_with fail;go_roundw
          case rel=>exact⟨k+1,t',os+non,qO,by go_num,by go_num,qO,(show _=_ by rw[<- Vu.o];rfl),Fa,HG2,Vv,HB6⟩
          case measure=>simp[intOf];omega
        . have q1:((k:Int)==(N:Int)-1)=false:=by simp;omega
          have hr4:r=4:=by rw[HRR.o,R1 (by rw[<- HN.o];exact Et) (aA0 (HG.o.trans (by rw[HDR.o])) HNC.o.symm (by rw[HID.o]) (by rw[As,qG qO,<- HNK.o];decide)) (by decide)]
          subst hr4;clear HG HOS HTL Dx HI HID As HPA HOU HC8 Dy Aw;go_wp2_with fail;go_ret;exact⟨rfl,HBF.o⟩
       .
        have e5:(nk==5)=false:=by simpa using hk5
        by_cases hkl:k+1=N
        . have q1:((k:Int)==(N:Int)-1)=true:=by simp;omega
          have hr4:r=4:=by rw[HRR.o,R1 (by rw[<- HN.o];exact Et) (aA0 (HG.o.trans (by rw[HDR.o])) HNC.o.symm (by rw[HID.o]) (by rw[As,qV qO,<- HNK.o];rw[qG hk5];decide)) (by decide)]
          subst hr4;clear HG HOS HTL Dx HI HID As HPA HOU HC8 Dy Aw;go_wp2_with fail;go_ret;exact⟨rfl,HBF.o⟩
        . have q1:((k:Int)==(N:Int)-1)=false:=by simp;omega
          have he:(ns.drop (k+1)).isEmpty=decide (n.kind=5):=by rw[As,qG qO,<- HNK.o];rw[qG hk5]
          have HG2:=qH (show y9 [] ns []=y9 (ns.take (k+1)) (ns.drop (k+1)) t' by
           rw[aA1 (HG.o.trans (by rw[HDR.o])) HNC.o.symm (by rw[HID.o]) he,HID.o,ac3 HNN.o])
          have Vu:=qH (show ((os:Int)+no)=N3 (ns.take (k+1)) by rw[az9 HNN.o,<- HOS.o,<- HNO.o]);have Fa:=qH (show t'.length<=5*(k+1) by have:=Dx.o;omega);have Ig:=ao8 HNC.o.symm;rw[<- HNO.o]at Ig;obtain⟨Ls,Ig⟩:=Ig;obtain⟨non,rfl⟩:=qm Ls;clear HG HOS HTL Dx HI HID As he HPA;go_wp2_with fail;refine (HOU.o _).mono ?_;rintro e w6⟨rfl,hb6⟩;have HB6:Hid (Below (w.heap.size+1) (w.alloc (.cells #[.slice (some ⟨b,off,none⟩) N cap] 24)) w6):=Aw.o.trans (hb6.mono (by have:=Aw.o.size;simpa using this));have Vv:Hid (K3 w6 (plainElem prog 3) (w.heap.size+1) t'.length t'):=Dy.o.below hb6;clear hb6 HOU HC8 Dy Aw hgx y0 y1 y2 y3 y4 y5 y6 y7;go_wp2_with fail;go_roundw
          case rel=>exact⟨k+1,t',os+non,qO,by go_num,by go_num,qO,(show _=_ by rw[<- Vu.o];rfl),Fa,HG2,Vv,HB6⟩
          case measure=>simp[intOf];omega
    . have hrn:r=nc:=by rw[HRR.o,R1 (by rw[<- HN.o];exact Et) ((aO5 (HG.o.trans (by rw[HDR.o])) (by rw[<- HNC.o];exact Vt)).trans HNC.o.symm) Vt]
      subst hrn;have HBF:Hid (Bq w w1):=g9.trans (HB1.o.mono (by simp));clear HC8 HB1 Ib HPA HG HOS HTL;go_wp2_with fail;go_ret;exact⟨rfl,HBF.o⟩
   .
    have hkN:k=N:=qO;have HGE:=qH (show y9 [] ns []=(0,t) by rw[HG.o,qi (by rw[<- HN.o];omega)];rfl);have Cb:=bo8 (by rw[<- HN.o];exact Et) HGE.o;have hos2:N3 ns=(os:Int):=by have h:=HOS.o;rw[hkN,HN.o,qj]at h;exact h.symm
    rw[<- HRR.o,<- HN.o,hos2]at Cb;obtain⟨D,Ab,Ef,Dh,hwf⟩:=HPA.o;by_cases hN0:N=0
    . subst hN0;rw[qF (.inl rfl)]at Cb;subst Cb;clear HG HGE HOS Ef Dh hwf Ab HPA HTL;go_wp2_with fail;go_ret;exact⟨rfl,HBW.o⟩
    . have e0:((N:Int)==0)=false:=by simp;omega
      have hsz:Go.Maps.size D=t.length:=Dh;by_cases heq:(t.length:Int)=(os:Int)
      . rw[qB (by rintro (h | h);exact hN0 h;exact h heq)]at Cb;subst Cb;have hto:t.length=os:=qO;rw[hto]at hsz Ab;have hlen:=fun ty=>Ab.len underlying69 ty;rw[hsz]at hlen;clear HG HGE HOS Ef Dh hwf HPA HTL heq hto;go_wp2_with fail;go_ret;exact⟨rfl,HBW.o⟩
      . rw[qF (.inr heq)]at Cb;subst Cb;obtain⟨tl,htl⟩:=qE t.length;rw[<- htl]at hsz Ab heq;have hne:((tl:Int)==(os:Int))=false:=by simpa using heq
        have hlen:=fun ty=>Ab.len underlying69 ty;rw[hsz]at hlen;clear HG HGE HOS Ef Dh hwf HPA HTL htl;go_wp2_with fail;go_ret;exact⟨rfl,HBW.o⟩
end Go.Proofs.YtmejdflmcikkdaaGreatDoor
namespace Go.Gs
open Go.RowKit
variable {l r:List SFile}{n:qU}{f:SFile}
def T8:List SFile->qU->Nat
 | [],_=>0
 | f::r,n=>if f.name<n then T8 r n+1 else 0
def I7(l:List SFile)(n:qU):Bool:=match l[T8 l n]? with
 | some f=>decide (f.name=n)
 | none=>false
theorem bw5:∀(l:List SFile)(n:qU),T8 l n<=l.length
 | [],n=>qA _
 | f::r,n=>by
  unfold T8;split
  . have:=bw5 r n;simp;omega
  . exact qM _
theorem bE6:∀{l:List SFile}{p:Option qU}{n:qU}{h:Nat}{f:SFile},x9 p l=0->l[h]?=some f->(f.name<n ↔ h<T8 l n)
 | [],p,n,h,f,_,e=>by simp at e
 | g::r,p,n,h,f,hr,e=>by
  obtain⟨h1,h2⟩:=ah9.1 hr;unfold T8;by_cases hg:g.name<n
  .
   rw[qF hg]
   cases h with
   | zero=>simp at e;subst e;simp[hg]
   | succ h=>have:=bE6 (n:=n) h2 (h:=h) (f:=f) (by simpa using e);rw[this];omega
  .
   rw[qB hg]
   cases h with
   | zero=>simp at e;subst e;simp[hg]
   | succ h=>
    have hm:f∈r:=mGt (by simpa using e);have:=aw2 h2 f hm;constructor
    . intro hf;exact absurd (List.lt_trans this hf) hg
    . intro hf;omega
theorem bw6(h:l[T8 l n]?=some f):I7 l n=decide (f.name=n):=by unfold I7;rw[h]
theorem bw7(h:¬T8 l n<l.length):I7 l n=false:=by unfold I7;rw[zN qO]
theorem bI5(h:I7 l n=true):∃f,l[T8 l n]?=some f/\f.name=n:=by
 unfold I7 at h;split at h
 . rename_i f e;exact⟨f,e,qp h⟩
 . cases h
theorem aK7(h:f.name<n):I7 (f::r) n=I7 r n:=by unfold I7;rw[show T8 (f::r) n=T8 r n+1 by rw[T8,qF h],xO]
theorem aK8(h:¬f.name<n):I7 (f::r) n=decide (f.name=n):=by unfold I7;rw[show T8 (f::r) n=0 by rw[T8,qB h],qq]
theorem aK9:∀{l:List SFile}{p:Option qU}{n:qU}{f:SFile},x9 p l=0->I7 l n=true->l[T8 l n]?=some f->E0 l n=f.b
 | [],p,n,f,_,_,e=>by simp at e
 | g::r,p,n,f,hr,ht,e=>by
  obtain⟨h1,h2⟩:=ah9.1 hr;rw[an5];by_cases hg:g.name<n
  . rw[qB (bT5 hg)];rw[aK7 hg]at ht;rw[T8,qF hg,xO]at e;exact aK9 h2 ht e
  . rw[aK8 hg]at ht;rw[T8,qB hg,qq]at e;injection e with e;rw[qF (qp ht),e]
theorem bl8:∀{l:List SFile}{p:Option qU}{n:qU},x9 p l=0->I7 l n=false->E0 l n=[]
 | [],p,n,_,_=>rfl
 | g::r,p,n,hr,ht=>by
  obtain⟨h1,h2⟩:=ah9.1 hr;rw[an5];by_cases hg:g.name<n
  . rw[qB (bT5 hg)];rw[aK7 hg]at ht;exact bl8 h2 ht
  . rw[aK8 hg]at ht;have hne:=of_decide_eq_false ht;rw[qB hne];have hlt:n<g.name:=bI4 hg (fun e=>hne e.symm);exact aE6 (fun f hf=>Ne.symm (bT5 (List.lt_trans hlt (aw2 h2 f hf))))
end Go.Gs
namespace Go.Proofs.YtmejdflmcikkdaaGreatDoor
open Go.RowKit Go.Gs Tryz
variable {w w':World}{o:Obj}{ao:Option Addr}{cap k B b:Nat}{xs:List Value}{fs:List SFile}{n bs:qU}{g f:SFile}{α H:Type}{c:UInt8}{P:Program}{e:TypeId}{v:Value}{ops:Array Oper}{rest:List Oper}{a:Act}{Q:Exit->Act->World->Prop}{R:Value->Option (DataW Unit × List MemPlace)}{t:List (Int × Int)}{D:DataW Unit}{p:Int × Int}
theorem ac1:Bq w (w.alloc o):=(Below.refl _ w).alloc (qA _) o
theorem aq7{n:Nat}(h:Reads w (.slice ao n cap) n xs):n<=9223372036854775807:=by obtain⟨_,c,e,h1,h2⟩:=h.shape;unfold maxLen at h2;omega
theorem aH8(a b:qU):((⟨a.toArray⟩:ByteArray).toList==(⟨b.toArray⟩:ByteArray).toList)=decide (a=b):=by
 by_cases h:a=b
 . subst h;simp
 . simp[h]
theorem aL0:∀(x y:qU),Op.bytesLess x y=decide (x<y)
 | [],[]=>by simp[Op.bytesLess]
 | _::_,[]=>by simp[Op.bytesLess]
 | [],_::_=>by simp[Op.bytesLess]
 | a::x,b::y=>by rw[Op.bytesLess,aL0 x y];simp only[zV];by_cases h1:a<b <;> by_cases h2:a=b <;> by_cases h3:x<y <;> simp[h1,h2,h3]
theorem aL1{a b:Value}{t:TypeId}(h:Below (w.alloc (.cells #[a,b] t)).heap.size (w.alloc (.cells #[a,b] t)) w'):w'.cell? ⟨w.heap.size,0,none⟩=some a/\w'.cell? ⟨w.heap.size,1,none⟩=some b:=by have hk:w'.heap[w.heap.size]?=some (.cells #[a,b] t (0,0)):=(h.block _ (by simp)).trans (qJ w _);simp[World.cell?,hk]
theorem bI6:∀{k:Nat}{f:SFile},fs[k]?=some f->f.name=n->(∀g∈fs.take k,g.name≠n)->E0 fs n=f.b:=by
 induction fs with
 | nil=>intro k f h;simp at h
 | cons a r ih=>
  intro k f h hf hno
  cases k with
  | zero=>simp at h;subst h;unfold E0;simp[hf]
  | succ k=>have hne:a.name≠n:=hno a (by simp);have:=ih (k:=k) (by simpa using h) hf (fun g hg=>hno g (by simp[hg]));rw[<- this];unfold E0;rw[List.find?_cons_of_neg (by simpa using hne)]
theorem bI7(h:∀g∈fs,g.name≠n):E0 fs n=[]:=by unfold E0;rw[zW.2 (fun g hg=>by simpa using h g hg)];rfl
def G6:Option qU->List SFile->Option qU
 | q,[]=>q
 | _,g::a=>G6 (some g.name) a
theorem aw3:∀(a:List SFile)(q:Option qU)(f:SFile)(r:List SFile),x9 q a=0->x9 q (a++f::r)=if fbad (G6 q a) f=0 then x9 (some f.name) r else fbad (G6 q a) f
 | [],q,f,r,_=>rfl
 | g::a,q,f,r,h=>by
  rw[x9]at h;split at h
  . rename_i h1;rw[zY,x9,qF h1,aw3 a _ f r h];rfl
  . rename_i h1;exact absurd h h1
theorem aW1:∀(a:List SFile)(q:Option qU)(g:SFile),G6 q (a++[g])=some g.name
 | [],q,g=>rfl
 | x::a,q,g=>by rw[zY,G6];exact aW1 a _ g
theorem aW2(h:fs[k]?=some g):G6 none (fs.take (k+1))=some g.name:=by rw[qZ,h];exact aW1 _ _ _
theorem bT6(h:fs[k]?=some f):fs=fs.take k++f::fs.drop (k+1):=by obtain⟨hk,e⟩:=gSm h;rw[<- e,<- qt hk,xU]
theorem ai0(h:fs[k]?=some f)(h0:x9 none (fs.take k)=0)(hb:fbad (G6 none (fs.take k)) f≠0):x9 none fs=fbad (G6 none (fs.take k)) f:=by have e:=aw3 (fs.take k) none f (fs.drop (k+1)) h0;rw[<- bT6 h,qB hb]at e;exact e
theorem aq8(h:fs[k]?=some f)(h0:x9 none (fs.take k)=0)(hb:fbad (G6 none (fs.take k)) f=0):x9 none (fs.take (k+1))=0:=by rw[qZ,h];have e:=aw3 (fs.take k) none f [] h0;rw[qF hb]at e;exact e
theorem belowq{a:World}(h:Below B a w)(q:Nat):Below B a (w.drewN q):=⟨h.os,h.tape,h.output,h.size,h.block⟩
theorem bl9(h:¬12<fs.length):fchk fs=x9 none fs:=by unfold fchk;rw[qB h]
theorem bT7{a b:List α}{x y:α}(ha:a[k]?=some x)(hb:b[k]?=some y)(h:x≠y):a≠b:=by intro e;rw[e,hb]at ha;injection ha with ha;exact h ha.symm
theorem bm0{a b:List α}{x:α}(h:a.take k=b.take k)(ha:a[k]?=some x)(hb:b[k]?=some x):a.take (k+1)=b.take (k+1):=by rw[qZ,qZ,h,ha,hb]
theorem aL2{n:Nat}(h:Reads w (.slice ao n cap) n (bs.map U))(hk:bs[k]?=some c):
 ∃b off,ao=some ⟨b,off,none⟩/\w.cell? ⟨b,off+k,none⟩=some (.int .u8 (c.toNat:Int)):=by obtain⟨h1,ao',cap',e,_,_,h5⟩:=h;injection e with e1 e2 e3;subst e1;obtain⟨hkl,_⟩:=gSm hk;rw[qS]at h1;obtain⟨b,off,hao,hc⟩:=h5 qO;exact⟨b,off,hao,hc k (U c) (by rw[qa,hk];rfl)⟩
theorem ad1{p:Obj}:Bq w ((w.alloc o).alloc p):=(ac1 (w:=w) (o:=o)).alloc (by simp) p
theorem addF{off j:Nat}:(⟨b,off,none⟩:Addr).add j=⟨b,off+j,none⟩:=by unfold Addr.add;split <;> simp_all
theorem aW4(au av:Option Addr)(cu cv:Nat)(a b:qU)(w:World)(ha:Reads w (.slice au a.length cu) a.length (a.map U))(hb:Reads w (.slice av b.length cv) b.length (b.map U)):
 Calls prog 38 #[.slice au a.length cu,.slice av b.length cv] w fun e w'=>e=.returned (.bool (decide (a=b)))/\Bq w w':=by
 have m2:=aq7 ha;have m4:=aq7 hb;have HA:=qH ha;have HB:=qH hb;obtain⟨NA,hNA⟩:=qE a.length;obtain⟨NB,hNB⟩:=qE b.length;have HNA:=qH hNA;have HNB:=qH hNB;have hA1:NA<=9223372036854775807:=qO;have hB1:NB<=9223372036854775807:=qO;rw[<- hNA,<- hNB];rw[<- hNA]at HA;rw[<- hNB]at HB;clear ha hb m2 m4 hNA hNB;by_cases hne:NA=NB
 .
  subst hne;go_enter func38,ntmps38;go_wp2_with fail;go_loopw [13] (fun i wr=>∃k:Nat,k<=NA/\i=.int .i64 k/\Hid (Bq w wr)/\Hid (a.take k=b.take k)) (fun i _=>NA-(intOf i).toNat)
  case atStart=>exact⟨0,qM _,rfl,Below.refl _ _,(show _=_ by simp)⟩
  case round=>
   obtain⟨k,hk,rfl,Aa,An⟩:=hrel;by_cases hlt:k<NA
   .
    obtain⟨x,hx⟩:∃x,a[k]?=some x:=⟨_,gEl (by have:=HNA.o;omega)⟩;obtain⟨y,hy⟩:∃y,b[k]?=some y:=⟨_,gEl (by have:=HNB.o;omega)⟩;have HX:=qH hx;have HY:=qH hy;obtain⟨b1,o1,rfl,hc1⟩:=aL2 (Reads.below HA.o Aa.o) hx;obtain⟨b2,o2,rfl,hc2⟩:=aL2 (Reads.below HB.o Aa.o) hy;by_cases hxy:x=y
    . subst hxy;have HE:Hid (a.take (k+1)=b.take (k+1)):=bm0 An.o hx hy;generalize (x.toNat:Int)=xi at *;clear hx hy An;go_wp2_with fail;go_region
      all_goals go_wp2_with fail
      all_goals go_roundw
      case rel=>exact⟨k+1,qO,by go_num,Aa.o.drew,HE⟩
      case measure=>simp[intOf];omega
    . have HE:Hid (a≠b):=bT7 hx hy hxy;have hxi:¬(x.toNat:Int)=(y.toNat:Int):=fun h=>hxy (UInt8.toNat_inj.1 qO);generalize (x.toNat:Int)=xi,(y.toNat:Int)=yi at *;clear hx hy An hxy;go_wp2_with fail;go_region
      all_goals go_wp2_with fail
      all_goals go_ret
      all_goals exact⟨by rw[qG HE.o];rfl,Aa.o.drew⟩
   .
    have HE:=qH (show a=b by
     have h:=An.o
     rw[qP (by have:=HNA.o;omega),qP (by have:=HNB.o;omega)]at h
     exact h)
    clear An;go_wp2_with fail;go_ret;exact⟨by rw[qV HE.o];rfl,Aa.o⟩
 . have HE:Hid (a≠b):=(show a≠b from fun e=>hne (by rw[HNA.o,HNB.o,e]));have hq:¬(NA:Int)=NB:=qO;go_enter func38,ntmps38;go_wp2_with fail;go_ret;exact⟨by rw[qG HE.o];rfl,Below.refl _ _⟩
open Go.Maps
theorem bW3(he:P.underlying e=some .bool){z:DataW H × List MemPlace}(h:plainElem P e v=some z):∃x,v=.bool x/\z=(.lit (.bool x),[]):=by
 cases v <;> simp_all [plainElem]
theorem O5(w:World){o:Oper}
 (hg:o.guard=none) (m x:Operand) (t:TypeId) (hop:o.op=Op.lookup t m x false)
 (k e:TypeId) (K:Keyed P k) (ht:P.underlying t=some (.map k e)) (he:P.underlying e=some .bool) (hz:(zeroValue e).run P w=.ok (.bool false) w) (b n:Nat) (D:DataW H)
 (hm:a.eval m=.map (some b)) (Ab:w.ownsMap P k (plainElem P e) b n D) (key:Value) (kl:Lit) (hx:a.eval x=key) (Bw:keyOf P k key=some kl) (c:Bool) (hat:D.atKey kl (.lit (.bool false))=.lit (.bool c))
 (hK:wpList P ops Q rest (a.put o.dst (.bool c)) w):
 wpList P ops Q (o::rest) a w:=by
 refine wpList_plain hg fun K' hK'=>?_;obtain⟨v,ps,Ae,hv⟩:=Ab.lookup K ht hz (plainElem_bool (H:=H) he false) Bw;obtain⟨s,rfl,hs⟩:=bW3 he hv;rw[hat]at hs;have hcs:c=s:=by simpa using (Prod.mk.inj hs).1
 subst hcs;unfold Oper.wp;simp[execOp,hop,hm,hx,Ae,Result.andThen];exact hK' _ _ hK
def L9(w:World)(R:Value->Option (DataW Unit × List MemPlace))(b n:Nat)(t:List (Int × Int)):Prop:=
 ∃D:DataW Unit,w.ownsMap prog 74 R b n D/\(∀p,WfP p->D.atKey (ae4 p) (.lit (.bool false))=.lit (.bool (decide (p∈t))))/\∀p∈t,WfP p
theorem L9.below{n:Nat}(h:L9 w R b n t)(hb:Bq w w'):L9 w' R b n t:=by obtain⟨D,h1,h2⟩:=h;exact⟨D,h1.kept (aw5 hb) (by simp),h2⟩
theorem L9.put{W:World}{n:Nat}(h1:w.ownsMap prog 74 R b n D)(h2:∀p,WfP p->D.atKey (ae4 p) (.lit (.bool false))=.lit (.bool (decide (p∈t))))(h4:∀p∈t,WfP p)
 (hp:WfP p) (ho:w'.ownsMap prog 74 R b (n+1) (D.put (ae4 p) (.lit (.bool true)))):L9 w' R b (n+1) (t++[p]):=by
 refine⟨_,ho,fun q hq=>?_,?_⟩
 .
  by_cases e:q=p
  . subst e;rw[Go.Maps.atKey_put_same h1.isMap (aU5 w q hq)];simp
  . rw[Go.Maps.atKey_put_other (fun h=>e (aB9 w hq hp h)),h2 q hq];simp[e]
 . intro q hq;rcases xY.1 hq with hq | hq
   . exact h4 q hq
   . rw[zC.1 hq];exact hp
theorem bz1(w:World)(o:Obj)(R:Value->Option (DataW Unit × List MemPlace)):L9 ((w.alloc o).alloc (.map #[] 0)) R (w.heap.size+1) 0 []:=by refine⟨.map [],?_,fun p _=>by simp[DataW.atKey],by simp⟩;have:=World.ownsMap_made (w.alloc o) prog 74 R;simpa using this
theorem ar1(w:World):(zeroValue 4).run prog w=.ok (.bool false) w:=qQ
end Go.Proofs.YtmejdflmcikkdaaGreatDoor
