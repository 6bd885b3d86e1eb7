/- What the developers' checkUsed, checkNode and hasPort do, and more. -/
import Derived.Test.YtllgglolcgdehaaGreatDoorSAb
import Derived.Test.YtllgglolcgdehaaGreatDoorSa26
import Derived.Test.YtllgglolcgdehaaGreatDoorSa22
set_option linter.all false
set_option maxRecDepth 100000
set_option maxHeartbeats 16000000
namespace Go.Proofs.YtllgglolcgdehaaGreatDoor
open Go.RowKit Go.Gs Tryz
theorem bU5{n:SNode}(h:n.kind=1\/n.kind=5):A6 n=if isWord n.file then 0 else 1:=by unfold A6;rw[qF h]
theorem bU6{n:SNode}(h:n.kind=2):A6 n=if n.wide<1\/5<n.wide then 3 else 0:=by unfold A6;rw[qA (by omega),qF h]
theorem bU7{n:SNode}(h:n.kind=3):A6 n=chk n.c:=by unfold A6;rw[qA (by omega),qA (by omega),qF h]
theorem bU8{n:SNode}(h:n.kind=4):A6 n=jchk n.how n.c:=by unfold A6;rw[qA (by omega),qA (by omega),qA (by omega),qF h]
theorem bU9{n:SNode}(h1:n.kind≠1)(h2:n.kind≠2)(h3:n.kind≠3)(h4:n.kind≠4)(h5:n.kind≠5):A6 n=4:=by unfold A6;rw[qA (by omega),qA h2,qA h3,qA h4]
theorem bj2(n:SNode)(ai:Option Addr)(ni ci:Nat)(w:World)(Ad:S0 n):
 Calls prog 191 #[C6 n ai ni ci] w fun e w'=>e=.returned (.int .i64 (A6 n))/\Bq w w':=by
 have Ei:=fun W=>ay0 n.file W Ad.1;have Dk:=fun W=>ah7 n.c W Ad.2.1;have Ej:=fun W=>bb8 n.how n.c W Ad.2.1;unfold Cmd.v at Dk Ej;obtain⟨u,hu⟩:=qE (A6 n);rw[<- hu];by_cases h15:n.kind=1\/n.kind=5
 .
  rw[bU5 h15]at hu;unfold C6;generalize isWord n.file=d at *;generalize (⟨n.file.toArray⟩:ByteArray)=fx at *;generalize (⟨n.c.word.toArray⟩:ByteArray)=wx at *;generalize n.c.kind=ck at *;generalize n.c.n=cn at *;generalize n.how=hw at *;generalize n.wide=wd at *;generalize n.kind=k at *;clear Dk Ej Ad;rcases h15 with rfl | rfl
  .
   cases d with
   | true=>
    simp only[if_true]at hu
    subst hu
    go_enter Tryz.func191,Tryz.ntmps191
    go_wp2_with fail
    refine (Ei _).mono ?_
    rintro e w1⟨rfl,rfl⟩
    go_wp2_with fail
    go_ret
    exact⟨rfl,i8⟩
   | false=>
    simp only[Bool.false_eq_true,if_false]at hu
    subst hu
    go_enter Tryz.func191,Tryz.ntmps191
    go_wp2_with fail
    refine (Ei _).mono ?_
    rintro e w1⟨rfl,rfl⟩
    go_wp2_with fail
    go_ret
    exact⟨rfl,i8⟩
  .
   cases d with
   | true=>
    simp only[if_true]at hu
    subst hu
    go_enter Tryz.func191,Tryz.ntmps191
    go_wp2_with fail
    refine (Ei _).mono ?_
    rintro e w1⟨rfl,rfl⟩
    go_wp2_with fail
    go_ret
    exact⟨rfl,i8⟩
   | false=>
    simp only[Bool.false_eq_true,if_false]at hu
    subst hu
    go_enter Tryz.func191,Tryz.ntmps191
    go_wp2_with fail
    refine (Ei _).mono ?_
    rintro e w1⟨rfl,rfl⟩
    go_wp2_with fail
    go_ret
    exact⟨rfl,i8⟩
 .
  by_cases h2:n.kind=2
  .
   rw[bU6 h2]at hu;unfold C6;rw[h2];generalize (⟨n.file.toArray⟩:ByteArray)=fx at *;generalize (⟨n.c.word.toArray⟩:ByteArray)=wx at *;generalize n.c.kind=ck at *;generalize n.c.n=cn at *;generalize n.how=hw at *;generalize n.wide=wd at *;clear Dk Ej Ei Ad h15 h2;by_cases g1:wd<1
   . rw[qF (.inl g1)]at hu;subst hu;go_enter Tryz.func191,Tryz.ntmps191;go_wp2_with fail;go_ret;exact⟨rfl,i8⟩
   . by_cases g5:5<wd
     . rw[qF (.inr g5)]at hu;subst hu;go_enter Tryz.func191,Tryz.ntmps191;go_wp2_with fail;go_ret;exact⟨rfl,i8⟩
     . rw[qA (by omega)]at hu;subst hu;go_enter Tryz.func191,Tryz.ntmps191;go_wp2_with fail;go_ret;exact⟨rfl,i8⟩
  .
   by_cases h3:n.kind=3
   . rw[bU7 h3]at hu;rw[<- hu]at Dk;unfold C6;rw[h3];generalize (⟨n.file.toArray⟩:ByteArray)=fx at *;generalize (⟨n.c.word.toArray⟩:ByteArray)=wx at *;generalize n.c.kind=ck at *;generalize n.c.n=cn at *;generalize n.how=hw at *;generalize n.wide=wd at *;clear Ej Ei Ad h15 h2 h3 hu;go_enter Tryz.func191,Tryz.ntmps191;go_wp2_with fail;refine (Dk _).mono ?_;rintro e w1⟨rfl,hb1⟩;have HB:Hid (Bq w w1):=i8.trans (hb1.mono (by simp));clear hb1 Dk;go_wp2_with fail;go_ret;exact⟨rfl,HB.out⟩
   .
    by_cases h4:n.kind=4
    . rw[bU8 h4]at hu;rw[<- hu]at Ej;unfold C6;rw[h4];generalize (⟨n.file.toArray⟩:ByteArray)=fx at *;generalize (⟨n.c.word.toArray⟩:ByteArray)=wx at *;generalize n.c.kind=ck at *;generalize n.c.n=cn at *;generalize n.how=hw at *;generalize n.wide=wd at *;clear Dk Ei Ad h15 h2 h3 h4 hu;go_enter Tryz.func191,Tryz.ntmps191;go_wp2_with fail;refine (Ej _).mono ?_;rintro e w1⟨rfl,hb1⟩;have HB:Hid (Bq w w1):=i8.trans (hb1.mono (by simp));clear hb1 Ej;go_wp2_with fail;go_ret;exact⟨rfl,HB.out⟩
    .
     rw[bU9 (by omega) h2 h3 h4 (by omega)]at hu;subst hu;unfold C6;generalize (⟨n.file.toArray⟩:ByteArray)=fx at *;generalize (⟨n.c.word.toArray⟩:ByteArray)=wx at *;generalize n.c.kind=ck at *;generalize n.c.n=cn at *;generalize n.how=hw at *;generalize n.wide=wd at *;generalize n.kind=k at *;have e1:(k==1)=false:=by simp;omega
     have e2:(k==2)=false:=by simp;omega
     have e3:(k==3)=false:=by simp;omega
     have e4:(k==4)=false:=by simp;omega
     have e5:(k==5)=false:=by simp;omega
     clear Dk Ei Ad Ej;go_enter Tryz.func191,Tryz.ntmps191;go_wp2_with fail;go_ret;exact⟨rfl,i8⟩
theorem ad5{w w':World}{a b c d e f g h:Value}{t:TypeId}(hb:Below (w.alloc (.cells #[a,b,c,d,e,f,g,h] t)).heap.size (w.alloc (.cells #[a,b,c,d,e,f,g,h] t)) w'):
 w'.cell? ⟨w.heap.size,0,none⟩=some a/\w'.cell? ⟨w.heap.size,1,none⟩=some b/\w'.cell? ⟨w.heap.size,2,none⟩=some c/\w'.cell? ⟨w.heap.size,3,none⟩=some d/\w'.cell? ⟨w.heap.size,4,none⟩=some e/\w'.cell? ⟨w.heap.size,5,none⟩=some f/\w'.cell? ⟨w.heap.size,6,none⟩=some g/\w'.cell? ⟨w.heap.size,7,none⟩=some h:=by
 refine⟨?_,?_,?_,?_,?_,?_,?_,?_⟩
 all_goals
  rw[hb.cell (by simp),qV _ _ _ _ _ _ (qN w _)];rfl
theorem bj3{n:SNode}(h:A6 n≠0):j9 n=A6 n:=by unfold j9;rw[qF h]
theorem bj4{n:SNode}(h:A6 n=0):j9 n=if (!J0 n.kind n.ins.length || G9 n)=true then 4 else 0:=by unfold j9;rw[qA (by simp[h])]
theorem aA8(n:SNode)(ai:Option Addr)(ci:Nat)(w:World)(Ad:S0 n)(hl:n.ins.length<=9223372036854775807):
 Calls prog 144 #[C6 n ai n.ins.length ci] w fun e w'=>e=.returned (.int .i64 (j9 n))/\Bq w w':=by
 have HU:Hid _:=fun W=>bj2 n ai n.ins.length ci W Ad;have HM:Hid _:=fun W=>bA5 n.kind n.ins.length W hl;have HH:Hid _:=fun W=>bf0 n ai n.ins.length ci W;obtain⟨r,hr⟩:=qE (j9 n);rw[<- hr];have HR:=qH hr;obtain⟨u,hu⟩:=qE (A6 n);have HUU:=qH hu;have HF:Hid _:=@bj4 n;have HG:Hid _:=@bj3 n;rw[<- hu]at HU HF HG;unfold C6 at HU HH ⊢;generalize J0 n.kind n.ins.length=mh at *;generalize G9 n=hu2 at *;generalize (⟨n.file.toArray⟩:ByteArray)=fx at *;generalize (⟨n.c.word.toArray⟩:ByteArray)=wx at *;generalize n.c.kind=ck at *;generalize n.c.n=cn at *;generalize n.how=hw at *;generalize n.wide=wd at *;generalize n.kind=k at *;generalize n.ins.length=ni at *;clear hr hu Ad;go_enter Tryz.func144,Tryz.ntmps144;go_wp2_with fail;refine (HU.out _).mono ?_;rintro e w1⟨rfl,hb1⟩;obtain⟨x0,x1,x2,x3,x4,x5,x6,x7⟩:=ad5 hb1
 have HB1:Hid (Bq w w1):=i8.trans (hb1.mono (by simp));clear hb1 HU;by_cases hu0:u=0
 .
  subst hu0;have HE:=HF.out rfl;go_wp2_with fail;refine (HM.out _).mono ?_;rintro e w2⟨rfl,rfl⟩
  cases mh with
  | false=>
   have hr4:r=4:=by rw[HR.out,HE];rfl
   subst hr4
   clear HE HF HG HM HH
   go_wp2_with fail
   go_ret
   exact⟨rfl,HB1.out⟩
  | true=>
   have HE2:Hid _:=HE
   clear HE HM HF HG
   go_wp2_with fail
   refine (HH.out _).mono ?_
   rintro e w3⟨rfl,hb3⟩
   have HB3:=qT HB1 hb3
   clear hb3 HH
   cases hu2 with
   | true=>
    have hr4:r=4:=by rw[HR.out,HE2.out];rfl
    subst hr4
    clear HE2
    go_wp2_with fail
    go_ret
    exact⟨rfl,HB3.out⟩
   | false=>
    have hr4:r=0:=by rw[HR.out,HE2.out];rfl
    subst hr4
    clear HE2
    go_wp2_with fail
    go_ret
    exact⟨rfl,HB3.out⟩
 . have hru:r=u:=by rw[HR.out,HG.out hu0]
   subst hru;clear HF HG HM HH HUU HR;go_wp2_with fail;go_ret;exact⟨rfl,HB1.out⟩
theorem ap8(n k:Nat)(w:World):Below n w (w.drewN k):=by
 induction k with
 | zero=>exact qI _ _
 | succ k ih=>exact ih.drew
theorem aR3{w w':World}{a b:Value}{t:TypeId}(hb:Below (w.alloc (.cells #[a,b] t)).heap.size (w.alloc (.cells #[a,b] t)) w'):w'.cell? ⟨w.heap.size,0,none⟩=some a/\w'.cell? ⟨w.heap.size,1,none⟩=some b:=by
 refine⟨?_,?_⟩
 all_goals
  rw[hb.cell (by simp),qV _ _ _ _ _ _ (qN w _)];rfl
theorem bF4{ns:List SNode}{p:Int × Int}(h:¬0<=p.1):A7 ns p=false:=by unfold A7;rw[qU h];rfl
theorem bF5{ns:List SNode}{p:Int × Int}(h:¬p.1<ns.length):A7 ns p=false:=by unfold A7;rw[qU h];simp
theorem bF6{ns:List SNode}{p:Int × Int}(h:¬0<=p.2):A7 ns p=false:=by unfold A7;rw[qU h];simp
theorem bV0{ns:List SNode}{i:Nat}{q:Int}{n:SNode}(hn:ns[i]? = some n)(h:0<=q):A7 ns ((i:Int),q)=decide (q<nouts n):=by have hi:i<ns.length:=(gSm hn).1;unfold A7;simp only[qq,hn,qu,xG];rw[qd (by omega:(0:Int)<=(i:Int)),qd (by omega:(i:Int)<(ns.length:Int)),qd h];simp
theorem bF7(ns:List SNode)(ao:Option Addr)(cap:Nat)(p q:Int)(w:World)(hr:D4 w (.slice ao ns.length cap) ns):
 Calls prog 145 #[.slice ao ns.length cap,.agg #[.int .i64 p,.int .i64 q]] w fun e w'=>e=.returned (.bool (A7 ns (p,q)))/\Bq w w':=by
 have hle:=aq6 hr;have HR:=qH hr;obtain⟨N,hN⟩:=qE ns.length;have HN:=qH hN;obtain⟨r,hrr⟩:=qE (A7 ns (p,q));have HRR:=qH hrr;rw[<- hN,<- hrr];rw[<- hN]at HR hle;clear hr hN hrr;by_cases h0:0<=p
 .
  by_cases hlt:p<N
  .
   by_cases hq:0<=q
   . obtain⟨i,rfl⟩:=xW h0;obtain⟨n,hn⟩:∃n,ns[i]? = some n:=⟨_,gEl (by have:=HN.out;omega)⟩;obtain⟨b,off,ai,ci,rfl,⟨c0,c1,c2,c3,c4,c5,c6,c7⟩,_⟩:=HR.out.at hn;have hrv:r=decide (q<nouts n):=by rw[HRR.out,bV0 hn hq]
     have g0:decide ((0:Int)<=(i:Int))=true:=qd h0;have g1:decide ((i:Int)<(N:Int))=true:=qd hlt;have g2:decide (0<=q)=true:=qd hq;have cF:∀d os,Calls prog 62 #[C6 n ai n.ins.length ci] (Go.Sort.grow (redrawn (w.alloc (.cells #[.int .i64 (i:Int),.int .i64 q] 79)) d) os) fun e w''=>e=.returned (.int .i64 (nouts n))/\∃p:Regrown,w''=Go.Sort.grow (redrawn (w.alloc (.cells #[.int .i64 (i:Int),.int .i64 q] 79)) p.d) p.os:=fun d os=>Calls.regrown_of (ay2 n ai n.ins.length ci _);have hbx:∀{a:Addr}{v:Value},w.cell? a=some v->∀d os,(Go.Sort.grow (redrawn (w.alloc (.cells #[.int .i64 (i:Int),.int .i64 q] 79)) d) os).cell? a=some v:=fun h d os=>cell_regrown (qC i8 h) d os;have k0:=hbx c0;have k1:=hbx c1;have k2:=hbx c2;have k3:=hbx c3;have k4:=hbx c4;have k5:=hbx c5;have k6:=hbx c6;have k7:=hbx c7
     obtain⟨y0,y1⟩:=aR3 (w:=w) (a:=.int .i64 (i:Int)) (b:=.int .i64 q) (t:=79) (qI _ _);have z0:=fun d os=>cell_regrown y0 d os;have z1:=fun d os=>cell_regrown y1 d os;unfold C6 at cF;generalize nouts n=no at *;generalize (⟨n.file.toArray⟩:ByteArray)=fx at *;generalize (⟨n.c.word.toArray⟩:ByteArray)=wx at *;generalize n.c.kind=ck at *;generalize n.c.n=cn at *;generalize n.how=hw at *;generalize n.wide=wd at *;generalize n.kind=k at *;generalize n.ins.length=ni at *;clear c0 c1 c2 c3 c4 c5 c6 c7 hbx HR HRR hn;subst hrv;go_enter Tryz.func145,Tryz.ntmps145;go_wp2_with fail;refine wp_region_quiet_below (by kernel_rfl) (by kernel_rfl) ?_;repeat (first|go_big_quiet_step (exact cF _ _) | quiet_step (exact cF _ _))
     refine wpQuiet_nil ?_;intro _ hw';obtain⟨⟨dq,osq⟩,Cb⟩:=hw';subst Cb;clear cF k0 k1 k2 k3 k4 k5 k6 k7 z0 z1 y0 y1;go_wp2_with fail;go_ret;exact⟨rfl,i8.trans ((below_regrown _ dq osq).mono (by simp))⟩
   . have hrf:r=false:=by rw[HRR.out,bF6 hq]
     subst hrf;have g0:decide (0<=p)=true:=qd h0;have g1:decide (p<(N:Int))=true:=qd hlt;have g2:decide (0<=q)=false:=qU hq;clear HR HRR;go_enter Tryz.func145,Tryz.ntmps145;go_wp2_with fail;go_quiet (fail);go_wp2_with fail;go_ret;exact⟨rfl,i8.trans (ap8 _ _ _)⟩
  . have hrf:r=false:=by rw[HRR.out,bF5 (by rw[<- HN.out];exact hlt)]
    subst hrf;have g0:decide (0<=p)=true:=qd h0;have g1:decide (p<(N:Int))=false:=qU hlt;clear HR HRR;go_enter Tryz.func145,Tryz.ntmps145;go_wp2_with fail;go_quiet (fail);go_wp2_with fail;go_ret;exact⟨rfl,i8.trans (ap8 _ _ _)⟩
 . have hrf:r=false:=by rw[HRR.out,bF4 h0]
   subst hrf;have g0:decide (0<=p)=false:=qU h0;clear HR HRR;go_enter Tryz.func145,Tryz.ntmps145;go_wp2_with fail;go_quiet (fail);go_wp2_with fail;go_ret;exact⟨rfl,i8.trans (ap8 _ _ _)⟩
theorem aR4{w w':World}(hb:Bq w w'):w.grownBy w' none:=⟨hb.os,hb.tape,hb.output,hb.size,fun k hk _=>hb.block k hk⟩
theorem J7.below{w w':World}{R:Value->Option (DataW Unit × List MemPlace)}{b n:Nat}{t:List (Int × Int)}(h:J7 w R b n t)(hb:Bq w w'):J7 w' R b n t:=by obtain⟨D,h1,h2⟩:=h;exact⟨D,h1.kept (aR4 hb) (by simp),h2⟩
theorem J7.put{w w' W:World}{R:Value->Option (DataW Unit × List MemPlace)}{b n:Nat}{t:List (Int × Int)}{D d:DataW Unit}{p:Int × Int}(h1:w.ownsMap prog 79 R b n D)(h2:∀p,WfP p->Go.Maps.has D (ao9 p)=decide (p∈t))(h3:Go.Maps.size D=t.length)(h4:∀p∈t,WfP p)
 (hp:WfP p) (hn:p∉t) (ho:w'.ownsMap prog 79 R b (n+1) (D.put (ao9 p) d)):J7 w' R b (n+1) (t++[p]):=by
 refine⟨_,ho,fun q hq=>?_,?_,?_⟩
 .
  by_cases e:q=p
  . subst e;rw[Go.Maps.has_put_same h1.isMap (bR1 w q hq)];simp
  . rw[Go.Maps.has_put_other (fun h=>e (aZ6 w hq hp h)),h2 q hq];simp[e]
 . rw[Go.Maps.size_put (h1.tidy V3),h2 p hp,qU hn,h3];simp
 . intro q hq;rcases xB.1 hq with hq | hq
   . exact h4 q hq
   . rw[xI.1 hq];exact hp
theorem bF8(w:World)(o:Obj)(R:Value->Option (DataW Unit × List MemPlace)):J7 ((w.alloc o).alloc (.map #[] 0)) R (w.heap.size+1) 0 []:=by refine⟨.map [],?_,fun p _=>by simp[Go.Maps.has],by simp[Go.Maps.size],by simp⟩;have:=World.ownsMap_made (w.alloc o) prog 79 R;simpa using this
theorem bV1{w w1 w2:World}{o:Obj}(h:Below (w.heap.size+1) (w.alloc o) w1)(hg:w1.grownBy w2 (some (w.heap.size+1))):Below (w.heap.size+1) (w.alloc o) w2:=
 h.grown hg (by have:=h.size;simpa using this) (fun k hk=>by simp only[qW]at hk;omega)
theorem bb9{w w':World}{a:Value}{t:TypeId}(hb:Below (w.heap.size+1) (w.alloc (.cells #[a] t)) w'):w'.cell? ⟨w.heap.size,0,none⟩=some a:=by rw[hb.cell (by simp),qV _ _ _ _ _ _ (qN w _)];rfl
def Q3(w:World)(b:Nat)(x0 x1 x2 x3 x4 x5 x6 x7:Value):Prop:=
 w.cell? ⟨b,0,none⟩=some x0/\w.cell? ⟨b,1,none⟩=some x1/\w.cell? ⟨b,2,none⟩=some x2/\w.cell? ⟨b,3,none⟩=some x3/\w.cell? ⟨b,4,none⟩=some x4/\w.cell? ⟨b,5,none⟩=some x5/\w.cell? ⟨b,6,none⟩=some x6/\w.cell? ⟨b,7,none⟩=some x7
theorem Q3.grown{w w':World}{b:Nat}{x0 x1 x2 x3 x4 x5 x6 x7:Value}{row:Option Nat}(h:Q3 w b x0 x1 x2 x3 x4 x5 x6 x7)(hg:w.grownBy w' row)(hne:some b≠row):Q3 w' b x0 x1 x2 x3 x4 x5 x6 x7:=by obtain⟨a0,a1,a2,a3,a4,a5,a6,a7⟩:=h;have hlt:b<w.heap.size:=bLt w _ a0;have k:∀(i:Nat)(v:Value),w.cell? ⟨b,i,none⟩=some v->w'.cell? ⟨b,i,none⟩=some v:=fun i v hv=>(show w'.cell? ⟨b,i,none⟩=w.cell? ⟨b,i,none⟩ from World.cell?_of_block (hg.block b hlt hne)).trans hv;exact⟨k 0 _ a0,k 1 _ a1,k 2 _ a2,k 3 _ a3,k 4 _ a4,k 5 _ a5,k 6 _ a6,k 7 _ a7⟩
theorem Q3.below{w w':World}{b:Nat}{x0 x1 x2 x3 x4 x5 x6 x7:Value}(h:Q3 w b x0 x1 x2 x3 x4 x5 x6 x7)(hb:Bq w w'):Q3 w' b x0 x1 x2 x3 x4 x5 x6 x7:=h.grown (aR4 hb) (by simp)
theorem aA9{ns:List SNode}{k:Nat}{n:SNode}(h:ns[k]? = some n):E7 (ns.take (k+1))=E7 (ns.take k)+nouts n:=by unfold E7;rw[Y0 h,qz,List.sum_append];simp
theorem aI0{n:SNode}(h:j9 n=0):0<=nouts n/\nouts n<=5:=by
 obtain⟨h1,_,_⟩:=E8 h;unfold nouts;rcases H7 h1 with⟨h3 | h3,_⟩|⟨h3,h4,h5⟩|⟨h3,h4⟩|⟨h3,h4⟩
 . rw[qA (by omega),qA (by omega)];omega
 . rw[qA (by omega),qF h3];omega
 . rw[qF h3];omega
 . rw[qA (by omega),qA (by omega)];omega
 . rw[qA (by omega),qA (by omega)];omega
theorem bV2{n:SNode}(h:j9 n=0):n.ins.length<=5:=by
 obtain⟨h1,h2,_⟩:=E8 h;unfold J0 at h2;by_cases g1:n.kind=1
 . rw[qF g1]at h2;have:=qc h2;omega
 . rw[qA g1]at h2;by_cases g4:n.kind=4
   . rw[qF g4]at h2;exact (qc h2).2
   . rw[qA g4]at h2;have:=qc h2;omega
theorem cf8{ns ahead r:List SNode}{n:SNode}{t:List (Int × Int)}(h:y8 [] ns []=y8 ahead (n::r) t)(hn:j9 n≠0):(y8 [] ns []).1=j9 n:=by rw[h];unfold y8;rw[qF hn]
theorem bJ7{ns ahead r:List SNode}{n:SNode}{t:List (Int × Int)}(h:y8 [] ns []=y8 ahead (n::r) t)(hn:j9 n=0)(hi:(B9 ahead n.ins t).1≠0):(y8 [] ns []).1=(B9 ahead n.ins t).1:=by rw[h];unfold y8;rw[qA (by simp[hn]),qF hi]
theorem bt2{ns ahead r:List SNode}{n:SNode}{t:List (Int × Int)}(h:y8 [] ns []=y8 ahead (n::r) t)(hn:j9 n=0)(hi:(B9 ahead n.ins t).1=0)(hl:r.isEmpty≠decide (n.kind=5)):(y8 [] ns []).1=4:=by rw[h];unfold y8;rw[qA (by simp[hn]),qA (by simp[hi]),qF hl]
theorem bt3{ns ahead r:List SNode}{n:SNode}{t:List (Int × Int)}(h:y8 [] ns []=y8 ahead (n::r) t)(hn:j9 n=0)(hi:(B9 ahead n.ins t).1=0)(hl:r.isEmpty=decide (n.kind=5)):y8 [] ns []=y8 (ahead++[n]) r (B9 ahead n.ins t).2:=by
 rw[h];conv=>lhs;unfold y8
 rw[qA (by simp[hn]),qA (by simp[hi]),qA (by simp[hl])]
theorem cn8{ahead:List SNode}{ps t t' r:List (Int × Int)}{p:Int × Int}(h:B9 ahead ps t=B9 ahead (p::r) t')(hp:A7 ahead p=false):(B9 ahead ps t).1=5:=by rw[h];unfold B9;rw[qF hp]
theorem bV3{ahead:List SNode}{ps t t' r:List (Int × Int)}{p:Int × Int}(h:B9 ahead ps t=B9 ahead (p::r) t')(hp:A7 ahead p=true)(ht:p∈t'):(B9 ahead ps t).1=6:=by rw[h];unfold B9;rw[qA (by simp[hp]),qF ht]
theorem cf9{ahead:List SNode}{ps t t' r:List (Int × Int)}{p:Int × Int}(h:B9 ahead ps t=B9 ahead (p::r) t')(hp:A7 ahead p=true)(ht:p∉t'):B9 ahead ps t=B9 ahead r (t'++[p]):=by
 rw[h];conv=>lhs;unfold B9
 rw[qA (by simp[hp]),qA ht]
theorem cg0{ahead:List SNode}{ps t t':List (Int × Int)}(h:B9 ahead ps t=B9 ahead [] t'):B9 ahead ps t=(0,t'):=by rw[h];rfl
theorem bV4{ns:List SNode}(h:60<ns.length):gchk ns=2:=by unfold gchk;rw[qF h]
theorem ap9{ns:List SNode}(h:ns.length<=60){r:Int}(hr:(y8 [] ns []).1=r)(h0:r≠0):gchk ns=r:=by unfold gchk;rw[qA (by omega),qF (by rw[hr];exact h0),hr]
theorem cg1{ns:List SNode}(h:ns.length<=60){t:List (Int × Int)}(hr:y8 [] ns []=(0,t)):gchk ns=if ns.length=0\/(t.length:Int)≠E7 ns then 4 else 0:=by unfold gchk;rw[qA (by omega),hr];simp
theorem bV5{ps:List (Int × Int)}{k:Nat}{p:Int × Int}(h:ps[k]? = some p):ps.drop k=p::ps.drop (k+1):=by obtain⟨hk,e⟩:=gSm h;rw[<- e,<- qh hk]
open Go.Maps
theorem bt4(w:World):(zeroValue 3).run prog w=.ok (.int .i64 0) w:=by kernel_rfl
theorem cg2{k:Nat}(h:k<=60):(Lit.int .i64 (k:Int)).wf=true:=by simp[Lit.wf,IntKind.min,IntKind.max,IntKind.signed,IntKind.bits];omega
theorem bc4(ns:List SNode)(ao:Option Addr)(cap:Nat)(w:World)(hr:D4 w (.slice ao ns.length cap) ns)(Ad:∀n∈ns,S0 n):
 Calls prog 93 #[.agg #[.slice ao ns.length cap]] w fun e w'=>e=.returned (.int .i64 (gchk ns))/\Bq w w':=by
 have hle:=aq6 hr;have HR:=qH hr;have Db:=qH Ad;obtain⟨N,hN⟩:=qE ns.length;have HN:=qH hN;obtain⟨r,hrr⟩:=qE (gchk ns);have HRR:=qH hrr;rw[<- hN,<- hrr];rw[<- hN]at HR hle;clear hr hN hrr Ad;by_cases h60:60<N
 .
  have hr2:r=2:=by rw[HRR.out,bV4 (by rw[<- HN.out];exact h60)]
  subst hr2;have hq:(60:Int)<N:=by omega
  clear HR HRR;go_enter Tryz.func93,Tryz.ntmps93;go_wp2_with fail;go_ret;exact⟨rfl,i8⟩
 .
  have hq:¬(60:Int)<N:=by omega
  have Jz:N<=60:=by omega
  have hmm:=@run_makeMap prog;go_enter Tryz.func93,Tryz.ntmps93;go_wp2_with fail;go_loopw [4,21] (fun ov i wr=>∃k:Nat,∃t:List (Int × Int),∃os:Nat,k<=N/\i=.int .i64 k/\ov=.int .i64 os/\os<=5*k/\Hid ((os:Int)=E7 (ns.take k))/\Hid (t.length<=5*k)/\Hid (y8 [] ns []=y8 (ns.take k) (ns.drop k) t)/\Hid (J7 wr (plainElem prog 3) (w.heap.size+1) t.length t)/\Hid (Below (w.heap.size+1) (w.alloc (.cells #[.slice ao N cap] 24)) wr)) (fun _ i _=>N-(intOf i).toNat)
  case atStart=>exact⟨0,[],0,qP _,rfl,rfl,qB _,(show _=_ from rfl),(show _<=_ from qB _),(show _=_ by simp),bF8 w _ _,(qI _ _).alloc (by simp) _⟩
  case round=>
   obtain⟨k,t,os,hk,rfl,rfl,hos,HOS,HTL,HG,HPA,Aa⟩:=hrel;obtain⟨wo,hwo⟩:=qE wr;subst hwo;have hgx:=bb9 Aa.out;have HBW:Hid (Bq w wo):=i8.trans (Aa.out.mono (by simp));by_cases hlt:k<N
   .
    obtain⟨n,hn⟩:∃n,ns[k]? = some n:=⟨_,gEl (by have:=HN.out;omega)⟩;obtain⟨b,off,ai,ci,rfl,hNA,HP⟩:=HR.out.at hn;obtain⟨c0,c1,c2,c3,c4,c5,c6,c7⟩:=hNA.below HBW.out;have hil:=(Y3 HP);have hfn:=Db.out n (mGt hn);have HCN:Hid _:=fun W=>aA8 n ai ci W hfn (by omega);obtain⟨nc,hnc⟩:=qE (j9 n);have HNC:=qH hnc;rw[<- hnc]at HCN;have HOU:Hid _:=fun W=>ay2 n ai n.ins.length ci W;have HDR:Hid (ns.drop k=n::ns.drop (k+1)):=Q6 hn;have HNN:=qH hn;have HFN:=qH hfn;obtain⟨nk,hnk⟩:=qE n.kind;have HNK:=qH hnk;obtain⟨ni,hni⟩:=qE n.ins.length;have HNI:=qH hni;have HPW:=qH HP;obtain⟨no,hno⟩:=qE (nouts n);have HNO:=qH hno;unfold C6 at HCN HOU;rw[<- hnk,<- hni]at HCN;rw[<- hnk,<- hni,<- hno]at HOU;rw[<- hni]at c7 hil HPW;rw[<- hnk]at c0;generalize (⟨n.file.toArray⟩:ByteArray)=fx at *;generalize (⟨n.c.word.toArray⟩:ByteArray)=wx0 at *;generalize n.c.kind=ck at *
    generalize n.c.n=cn at *;generalize n.how=hw at *;generalize n.wide=wd at *;clear hn hfn hnc hnk hni HP hno hNA;go_wp2_with fail;refine (HCN.out _).mono ?_;rintro e w1⟨rfl,hb1⟩;have HC8:Hid (Q3 w1 wo.heap.size (.int .i64 nk) (.string fx) (.int .i64 ck) (.string wx0) (.int .i64 cn) (.int .i64 hw) (.int .i64 wd) (.slice ai ni ci)):=ad5 hb1;have HBX:Hid (Bq wo w1):=i8.trans (hb1.mono (by simp));have HB1:Hid (Below (w.heap.size+1) (w.alloc (.cells #[.slice (some ⟨b,off,none⟩) N cap] 24)) w1):=Aa.out.trans (HBX.out.mono (by have:=Aa.out.size;simpa using this));have Vb:Hid (J7 w1 (plainElem prog 3) (w.heap.size+1) t.length t):=HPA.out.below HBX.out;have HNB:=qH (show w.heap.size+1<wo.heap.size from by obtain⟨D,h1,_⟩:=HPA.out;exact h1.lt);clear hb1 HCN hgx c0 c1 c2 c3 c4 c5 c6 c7;by_cases Vd:nc=0
    .
     subst Vd;have hni5:ni<=5:=by rw[HNI.out];exact bV2 HNC.out.symm
     obtain⟨y0,y1,y2,y3,y4,y5,y6,y7⟩:=id HC8.out;go_wp2_with fail;go_loopw [34] (fun j wx=>∃m:Nat,∃t':List (Int × Int),m<=ni/\j=.int .i64 m/\Hid (t'.length<=5*k+m)/\Hid (B9 (ns.take k) n.ins t=B9 (ns.take k) (n.ins.drop m) t')/\Hid (J7 wx (plainElem prog 3) (w.heap.size+1) t'.length t')/\Hid (Q3 wx wo.heap.size (.int .i64 nk) (.string fx) (.int .i64 ck) (.string wx0) (.int .i64 cn) (.int .i64 hw) (.int .i64 wd) (.slice ai ni ci))/\Hid (Below (w.heap.size+1) (w.alloc (.cells #[.slice (some ⟨b,off,none⟩) N cap] 24)) wx)) (fun j _=>ni-(intOf j).toNat)
     case atStart=>exact⟨0,t,qP _,rfl,HTL,(show _=_ by simp),Vb,HC8,HB1⟩
     case round=>
      clear Vb HC8 HB1 y0 y1 y2 y3 y4 y5 y6 y7;obtain⟨m,t',hm,rfl,Ia,HI,Ib,HC8,Cj⟩:=hrel;have hgx:=bb9 Cj.out;have Hy:Hid (Bq w wr):=i8.trans (Cj.out.mono (by simp));obtain⟨y0,y1,y2,y3,y4,y5,y6,y7⟩:=id HC8.out;by_cases hmlt:m<ni
      .
       obtain⟨p,hp⟩:∃p,n.ins[m]? = some p:=⟨_,gEl (by have:=HNI.out;omega)⟩;have HBR:=qH Hy;obtain⟨pb,po,rfl,p0,p1⟩:=(F2.below HPW.out HBR.out).at hp;have Nl:WfP p:=HFN.out.2.2 p (mGt hp);have HDP:Hid (n.ins.drop m=p::n.ins.drop (m+1)):=bV5 hp;obtain⟨pp,pq⟩:=p;simp only at p0 p1;have HWP:=qH Nl;have Nn:(ns.take k).length=k:=by rw[qL];have:=HN.out;omega
       have HHP:Hid _:=fun(W:World)(hb:Bq w W)=>bF7 (ns.take k) (some ⟨b,off,none⟩) cap pp pq W (by rw[Nn];exact (HR.out.below hb).take k (by have:=HN.out;omega));rw[Nn]at HHP;obtain⟨po2,Bv⟩:=qE (A7 (ns.take k) (pp,pq));have HPO:=qH Bv;rw[<- Bv]at HHP;have hkc:k<=cap:=by omega
       clear hp Nl Bv Nn;have hbx:Bq w (wr.alloc (.cells #[.int .i64 pp,.int .i64 pq] 79)):=HBR.out.trans (i8.mono HBR.out.size);have cF:∀d os,Calls prog 145 #[.slice (some ⟨b,off,none⟩) k cap,.agg #[.int .i64 pp,.int .i64 pq]] (Go.Sort.grow (redrawn (wr.alloc (.cells #[.int .i64 pp,.int .i64 pq] 79)) d) os) fun e w''=>e=.returned (.bool po2)/\∃p:Regrown,w''=Go.Sort.grow (redrawn (wr.alloc (.cells #[.int .i64 pp,.int .i64 pq] 79)) p.d) p.os:=fun d os=>Calls.regrown_of (HHP.out _ (hbx.trans ((below_regrown _ d os).mono hbx.size)));obtain⟨q0,q1⟩:=aR3 (w:=wr) (a:=.int .i64 pp) (b:=.int .i64 pq) (t:=79) (qI _ _);have z0:=fun d os=>cell_regrown q0 d os;have z1:=fun d os=>cell_regrown q1 d os;have z2:=fun d os=>cell_regrown ((i8 (o:=.cells #[.int .i64 pp,.int .i64 pq] 79)).cell (bLt wr _ hgx) |>.trans hgx) d os;go_wp2_with fail
       refine wp_region_quiet_below (by kernel_rfl) (by kernel_rfl) ?_;repeat (first|go_big_quiet_step (exact cF _ _) | quiet_step (exact cF _ _))
       refine wpQuiet_nil ?_;intro _ hw';obtain⟨⟨dq,osq⟩,Cb⟩:=hw';subst Cb;have HBQ:Hid (Bq wr (Go.Sort.grow (redrawn (wr.alloc (.cells #[.int .i64 pp,.int .i64 pq] 79)) dq) osq)):=i8.trans ((below_regrown _ dq osq).mono (by simp));have k0:=z0 dq osq;have k1:=z1 dq osq;clear cF z0 z1 z2 q0 q1 HHP hbx;generalize Go.Sort.grow (redrawn (wr.alloc (.cells #[.int .i64 pp,.int .i64 pq] 79)) dq) osq=wq at *;have Ko:Hid (Below (w.heap.size+1) (w.alloc (.cells #[.slice (some ⟨b,off,none⟩) N cap] 24)) wq):=Cj.out.trans (HBQ.out.mono (by have:=Cj.out.size;simpa using this));have Px:Hid (J7 wq (plainElem prog 3) (w.heap.size+1) t'.length t'):=Ib.out.below HBQ.out;have Py:Hid (Q3 wq wo.heap.size (.int .i64 nk) (.string fx) (.int .i64 ck) (.string wx0) (.int .i64 cn) (.int .i64 hw) (.int .i64 wd) (.slice (some ⟨pb,po,none⟩) ni ci)):=HC8.out.below HBQ.out
       clear HC8 Ib y0 y1 y2 y3 y4 y5 y6 y7 hgx p0 p1 Cj
       cases po2 with
       | false=>
        have hr5:r=5:=by
         have h5:=cn8 (HI.out.trans (by rw[HDP.out])) HPO.out.symm
         rw[HRR.out,ap9 (by rw[<- HN.out];exact Jz) ((bJ7 (HG.out.trans (by rw[HDR.out])) HNC.out.symm (by rw[h5];decide)).trans h5) (by decide)]
        subst hr5
        have HBF:Hid (Bq w wq):=i8.trans (Ko.out.mono (by simp))
        clear Px Py Ko
        go_wp2_with fail
        go_ret
        exact⟨rfl,HBF.out⟩
       | true=>
        obtain⟨D,Ab,Jc,Dt,hwfD⟩:=id Px.out
        have Hu:keyOf prog 79 (.agg #[.int .i64 pp,.int .i64 pq])=some (ao9 (pp,pq)):=ad2 wq (pp,pq) HWP.out
        have hh:=Jc (pp,pq) HWP.out
        have HHas:Hid _:=Jc
        have HSiz:Hid _:=Dt
        have HWfD:Hid _:=hwfD
        clear Jc Dt hwfD
        by_cases hin:(pp,pq)∈t'
        . have hr6:r=6:=by
           have h6:=bV3 (HI.out.trans (by rw[HDP.out])) HPO.out.symm hin
           rw[HRR.out,ap9 (by rw[<- HN.out];exact Jz) ((bJ7 (HG.out.trans (by rw[HDR.out])) HNC.out.symm (by rw[h6];decide)).trans h6) (by decide)]
          subst hr6
          rw[qd hin]at hh
          have HBF:Hid (Bq w wq):=i8.trans (Ko.out.mono (by simp))
          clear Px Py Ko
          go_wp2_with (at_lookup;refine wpList_lookup_own_ok_int _ rfl _ _ 109 rfl 79 3 .i64 V3 underlying109 underlying3 (bt4 _) (w.heap.size+1) _ D rfl Ab _ _ rfl Hu ?_;intro cc hat hwc;rw[hh])
          go_ret
          exact⟨rfl,HBF.out⟩
        .
         rw[qU hin]at hh
         have hn0:t'.length<maxLen:=by have:=Ia.out;unfold maxLen;omega
         have hwk:=cg2 (show k<=60 by omega)
         have HI2:=qH (show B9 (ns.take k) n.ins t=B9 (ns.take k) (n.ins.drop (m+1)) (t'++[(pp,pq)]) from cf9 (HI.out.trans (by rw[HDP.out])) HPO.out.symm hin)
         have Np:=qH (show (t'++[(pp,pq)]).length<=5*k+(m+1) by have:=Ia.out;simp;omega)
         go_wp2_with (first
          | (at_lookup;refine wpList_lookup_own_ok_int _ rfl _ _ 109 rfl 79 3 .i64 V3 underlying109 underlying3 (bt4 _) (w.heap.size+1) _ D rfl Ab _ _ rfl Hu ?_;intro cc hat hwc;rw[hh];clear hat hwc)
          | (at_mapUpdate;refine wpList_mapUpdate_own _ rfl _ _ _ 109 rfl 79 3 V3 underlying109 _ (w.heap.size+1) t'.length D rfl Ab hn0 _ _ _ rfl rfl Hu _ [] (plainElem_int underlying3 hwk) ?_;intro w5 ho5 hg5))
         have HP5:=qH (show J7 w5 (plainElem prog 3) (w.heap.size+1) (t'++[(pp,pq)]).length (t'++[(pp,pq)]) by
          have h:=J7.put (W:=w) Ab HHas.out HSiz.out HWfD.out HWP.out hin ho5
          simpa using h)
         have HC85:Hid (Q3 w5 wo.heap.size (.int .i64 nk) (.string fx) (.int .i64 ck) (.string wx0) (.int .i64 cn) (.int .i64 hw) (.int .i64 wd) (.slice (some ⟨pb,po,none⟩) ni ci)):=Py.out.grown hg5 (by simp only[ne_eq,qW];have:=HNB.out;omega)
         have HB5:Hid (Below (w.heap.size+1) (w.alloc (.cells #[.slice (some ⟨b,off,none⟩) N cap] 24)) w5):=bV1 Ko.out hg5
         clear ho5 hg5 Ab HHas HSiz HWfD Px Py Ko Hu hh k0 k1
         go_wp2_with fail
         go_roundw
         case rel=>exact⟨m+1,_,by omega,by go_num,Np,HI2,HP5,HC85,HB5⟩
         case measure=>simp[intOf];omega
      .
       have hmn:m=ni:=by omega
       have HID:=qH (show B9 (ns.take k) n.ins t=(0,t') from cg0 (HI.out.trans (by rw[qt (by rw[<- HNI.out];omega)])));have Bz:(ns.drop (k+1)).isEmpty=decide ((k:Int)=(N:Int)-1):=by
        by_cases e:k+1=N
        . rw[qd (by omega),xC];exact List.drop_eq_nil_of_le (by rw[<- HN.out];omega)
        . rw[qU (by omega)]
          cases hd:ns.drop (k+1) with
          | nil=>exact absurd (List.drop_eq_nil_iff.1 hd) (by rw[<- HN.out];omega)
          | cons a b=>rfl
       have HBF:=qH Hy;by_cases hk5:nk=5
       .
        subst hk5;by_cases hkl:k+1=N
        . have q1:((k:Int)==(N:Int)-1)=true:=by simp;omega
          have he:(ns.drop (k+1)).isEmpty=decide (n.kind=5):=by rw[Bz,qd (by omega),<- HNK.out];rfl
          have HG2:=qH (show y8 [] ns []=y8 (ns.take (k+1)) (ns.drop (k+1)) t' by
           rw[bt3 (HG.out.trans (by rw[HDR.out])) HNC.out.symm (by rw[HID.out]) he,HID.out,Y0 HNN.out])
          have Ve:=qH (show ((os:Int)+no)=E7 (ns.take (k+1)) by rw[aA9 HNN.out,<- HOS.out,<- HNO.out]);have Np:=qH (show t'.length<=5*(k+1) by have:=Ia.out;omega);have Gn:=aI0 HNC.out.symm;rw[<- HNO.out]at Gn;obtain⟨Vf,Gn⟩:=Gn;obtain⟨non,rfl⟩:=xW Vf;clear HG HOS HTL Ia HI HID Bz he HPA;go_wp2_with fail;refine (HOU.out _).mono ?_;rintro e w6⟨rfl,hb6⟩;have HB6:Hid (Below (w.heap.size+1) (w.alloc (.cells #[.slice (some ⟨b,off,none⟩) N cap] 24)) w6):=Cj.out.trans (hb6.mono (by have:=Cj.out.size;simpa using this));have Vg:Hid (J7 w6 (plainElem prog 3) (w.heap.size+1) t'.length t'):=Ib.out.below hb6;clear hb6 HOU HC8 Ib Cj hgx y0 y1 y2 y3 y4 y5 y6 y7;go_wp2_with fail;go_roundw
          case rel=>exact⟨k+1,t',os+non,by omega,by go_num,by go_num,by omega,(show _=_ by rw[<- Ve.out];rfl),Np,HG2,Vg,HB6⟩
          case measure=>simp[intOf];omega
        . have q1:((k:Int)==(N:Int)-1)=false:=by simp;omega
          have hr4:r=4:=by rw[HRR.out,ap9 (by rw[<- HN.out];exact Jz) (bt2 (HG.out.trans (by rw[HDR.out])) HNC.out.symm (by rw[HID.out]) (by rw[Bz,qU (by omega),<- HNK.out];decide)) (by decide)]
          subst hr4;clear HG HOS HTL Ia HI HID Bz HPA HOU HC8 Ib Cj;go_wp2_with fail;go_ret;exact⟨rfl,HBF.out⟩
       .
        have e5:(nk==5)=false:=by simpa using hk5
        by_cases hkl:k+1=N
        . have q1:((k:Int)==(N:Int)-1)=true:=by simp;omega
          have hr4:r=4:=by rw[HRR.out,ap9 (by rw[<- HN.out];exact Jz) (bt2 (HG.out.trans (by rw[HDR.out])) HNC.out.symm (by rw[HID.out]) (by rw[Bz,qd (by omega),<- HNK.out];rw[qU hk5];decide)) (by decide)]
          subst hr4;clear HG HOS HTL Ia HI HID Bz HPA HOU HC8 Ib Cj;go_wp2_with fail;go_ret;exact⟨rfl,HBF.out⟩
        . have q1:((k:Int)==(N:Int)-1)=false:=by simp;omega
          have he:(ns.drop (k+1)).isEmpty=decide (n.kind=5):=by rw[Bz,qU (by omega),<- HNK.out];rw[qU hk5]
          have HG2:=qH (show y8 [] ns []=y8 (ns.take (k+1)) (ns.drop (k+1)) t' by
           rw[bt3 (HG.out.trans (by rw[HDR.out])) HNC.out.symm (by rw[HID.out]) he,HID.out,Y0 HNN.out])
          have Ve:=qH (show ((os:Int)+no)=E7 (ns.take (k+1)) by rw[aA9 HNN.out,<- HOS.out,<- HNO.out]);have Np:=qH (show t'.length<=5*(k+1) by have:=Ia.out;omega);have Gn:=aI0 HNC.out.symm;rw[<- HNO.out]at Gn;obtain⟨Vf,Gn⟩:=Gn;obtain⟨non,rfl⟩:=xW Vf;clear HG HOS HTL Ia HI HID Bz he HPA;go_wp2_with fail;refine (HOU.out _).mono ?_;rintro e w6⟨rfl,hb6⟩;have HB6:Hid (Below (w.heap.size+1) (w.alloc (.cells #[.slice (some ⟨b,off,none⟩) N cap] 24)) w6):=Cj.out.trans (hb6.mono (by have:=Cj.out.size;simpa using this));have Vg:Hid (J7 w6 (plainElem prog 3) (w.heap.size+1) t'.length t'):=Ib.out.below hb6;clear hb6 HOU HC8 Ib Cj hgx y0 y1 y2 y3 y4 y5 y6 y7;go_wp2_with fail;go_roundw
          case rel=>exact⟨k+1,t',os+non,by omega,by go_num,by go_num,by omega,(show _=_ by rw[<- Ve.out];rfl),Np,HG2,Vg,HB6⟩
          case measure=>simp[intOf];omega
    . have hrn:r=nc:=by rw[HRR.out,ap9 (by rw[<- HN.out];exact Jz) ((cf8 (HG.out.trans (by rw[HDR.out])) (by rw[<- HNC.out];exact Vd)).trans HNC.out.symm) Vd]
      subst hrn;have HBF:Hid (Bq w w1):=i8.trans (HB1.out.mono (by simp));clear HC8 HB1 Vb HPA HG HOS HTL;go_wp2_with fail;go_ret;exact⟨rfl,HBF.out⟩
   .
    have hkN:k=N:=by omega
    have HGE:=qH (show y8 [] ns []=(0,t) by rw[HG.out,qt (by rw[<- HN.out];omega)];rfl);have Cc:=cg1 (by rw[<- HN.out];exact Jz) HGE.out;have hos2:E7 ns=(os:Int):=by have h:=HOS.out;rw[hkN,HN.out,qZ]at h;exact h.symm
    rw[<- HRR.out,<- HN.out,hos2]at Cc;obtain⟨D,Ab,Jc,Dt,hwf⟩:=HPA.out;by_cases hN0:N=0
    . subst hN0;rw[qF (.inl rfl)]at Cc;subst Cc;clear HG HGE HOS Jc Dt hwf Ab HPA HTL;go_wp2_with fail;go_ret;exact⟨rfl,HBW.out⟩
    .
     have e0:((N:Int)==0)=false:=by simp;omega
     have hsz:Go.Maps.size D=t.length:=Dt;by_cases heq:(t.length:Int)=(os:Int)
     . rw[qA (by rintro (h | h);exact hN0 h;exact h heq)]at Cc;subst Cc;have hto:t.length=os:=by omega
       rw[hto]at hsz Ab;have hlen:=fun ty=>Ab.len underlying109 ty;rw[hsz]at hlen;clear HG HGE HOS Jc Dt hwf HPA HTL heq hto;go_wp2_with fail;go_ret;exact⟨rfl,HBW.out⟩
     . rw[qF (.inr heq)]at Cc;subst Cc;obtain⟨tl,htl⟩:=qE t.length;rw[<- htl]at hsz Ab heq;have hne:((tl:Int)==(os:Int))=false:=by simpa using heq
       have hlen:=fun ty=>Ab.len underlying109 ty;rw[hsz]at hlen;clear HG HGE HOS Jc Dt hwf HPA HTL htl;go_wp2_with fail;go_ret;exact⟨rfl,HBW.out⟩
end Go.Proofs.YtllgglolcgdehaaGreatDoor
