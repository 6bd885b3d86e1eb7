/- What the developers' hasPort does, and more. -/
import Derived.Test.YtllgglolcgdehaaGreatDoorQAb
import Derived.Lib.Bytealg
import Derived.Laws.Shifts
import Derived.Test.YtllgglolcgdehaaGreatDoorQa13
set_option maxRecDepth 100000
set_option maxHeartbeats 16000000
namespace Go.Proofs.YtllgglolcgdehaaGreatDoor
open Go.RowKit Go.Gs
set_option linter.unusedVariables false
theorem av4 (n k:Nat) (w:World):Below n w (w.drewN k):=by
 induction k with
 | zero=>exact Below.refl _ _
 | succ k ih=>exact ih.drew
theorem aU7 {w w':World} {a b:Value} {t:TypeId} (hb:Below (w.alloc (.cells #[a,b] t)).heap.size (w.alloc (.cells #[a,b] t)) w'):w'.cell? ⟨w.heap.size,0,none⟩=some a/\w'.cell? ⟨w.heap.size,1,none⟩=some b:=by
 refine⟨?_,?_⟩
 all_goals
  rw[hb.cell (by simp),cell_of_row _ _ _ _ _ _ (heap_alloc_new w _)]
  rfl
theorem bG5 {ns:List SNode} {p:Int × Int} (h:¬0<=p.1):A7 ns p=false:=by unfold A7;rw[decide_eq_false h];rfl
theorem bG6 {ns:List SNode} {p:Int × Int} (h:¬p.1<ns.length):A7 ns p=false:=by unfold A7;rw[decide_eq_false h];simp
theorem bG7 {ns:List SNode} {p:Int × Int} (h:¬0<=p.2):A7 ns p=false:=by unfold A7;rw[decide_eq_false h];simp
theorem bV0 {ns:List SNode} {i:Nat} {q:Int} {n:SNode} (hn:ns[i]? = some n) (h:0<=q):A7 ns ((i:Int),q)=decide (q<nouts n):=by have hi:i<ns.length:=(gSm hn).1;unfold A7;simp only[Int.toNat_natCast,hn,Option.map_some,Option.getD_some];rw[decide_eq_true (by omega:(0:Int)<=(i:Int)),decide_eq_true (by omega:(i:Int)<(ns.length:Int)),decide_eq_true h];simp
theorem bG8 (ns:List SNode) (ao:Option Addr) (cap:Nat) (p q:Int) (w:World) (hr:A2 w (.slice ao ns.length cap) ns) :
 Calls Tryz.prog 145 #[.slice ao ns.length cap,.agg #[.int .i64 p,.int .i64 q]] w fun e w'=>e=.returned (.bool (A7 ns (p,q)))/\Bq w w':=by
 have hle:=ac3 hr;have HR:=qH hr;obtain⟨N,hN⟩:=qE ns.length;have HN:=qH hN;obtain⟨r,hrr⟩:=qE (A7 ns (p,q));have HRR:=qH hrr;rw[<- hN,<- hrr];rw[<- hN] at HR hle;clear hr hN hrr;by_cases h0:0<=p
 .
  by_cases hlt:p<N
  .
   by_cases hq:0<=q
   . obtain⟨i,rfl⟩:=Int.eq_ofNat_of_zero_le h0;obtain⟨n,hn⟩:∃n,ns[i]? = some n:=⟨_,gEl (by have:=HN.out;omega)⟩;obtain⟨b,off,ai,ci,rfl,⟨c0,c1,c2,c3,c4,c5,c6,c7⟩,_⟩:=HR.out.at hn;have hrv:r=decide (q<nouts n):=by rw[HRR.out,bV0 hn hq]
     have g0:decide ((0:Int)<=(i:Int))=true:=decide_eq_true h0;have g1:decide ((i:Int)<(N:Int))=true:=decide_eq_true hlt;have g2:decide (0<=q)=true:=decide_eq_true hq;have cF:∀d os,Calls Tryz.prog 62 #[D2 n ai n.ins.length ci] (Go.Sort.grow (redrawn (w.alloc (.cells #[.int .i64 (i:Int),.int .i64 q] 79)) d) os) fun e w''=>e=.returned (.int .i64 (nouts n)) /\ ∃p:Regrown,w''=Go.Sort.grow (redrawn (w.alloc (.cells #[.int .i64 (i:Int),.int .i64 q] 79)) p.d) p.os:=fun d os=>Calls.regrown_of (aE5 n ai n.ins.length ci _);have hbx:∀{a:Addr} {v:Value},w.cell? a=some v -> ∀d os,(Go.Sort.grow (redrawn (w.alloc (.cells #[.int .i64 (i:Int),.int .i64 q] 79)) d) os).cell? a=some v:=fun h d os=>cell_regrown ((b9.cell (bLt w _ h)).trans h) d os;have k0:=hbx c0;have k1:=hbx c1;have k2:=hbx c2;have k3:=hbx c3;have k4:=hbx c4;have k5:=hbx c5;have k6:=hbx c6;have k7:=hbx c7
     obtain⟨y0,y1⟩:=aU7 (w:=w) (a:=.int .i64 (i:Int)) (b:=.int .i64 q) (t:=79) (Below.refl _ _);have z0:=fun d os=>cell_regrown y0 d os;have z1:=fun d os=>cell_regrown y1 d os;unfold D2 at cF;generalize nouts n=no at *;generalize (⟨n.file.toArray⟩:ByteArray)=fx at *;generalize (⟨n.c.word.toArray⟩:ByteArray)=wx at *;generalize n.c.kind=ck at *;generalize n.c.n=cn at *;generalize n.how=hw at *;generalize n.wide=wd at *;generalize n.kind=k at *;generalize n.ins.length=ni at *;clear c0 c1 c2 c3 c4 c5 c6 c7 hbx HR HRR hn;subst hrv;go_enter Tryz.func145,Tryz.ntmps145;go_wp2_with fail;refine wp_region_quiet_below (by kernel_rfl) (by kernel_rfl) ?_;repeat (first | go_big_quiet_step (exact cF _ _) | quiet_step (exact cF _ _))
     refine wpQuiet_nil ?_;intro _ hw';obtain⟨⟨dq,osq⟩,Da⟩:=hw';subst Da;clear cF k0 k1 k2 k3 k4 k5 k6 k7 z0 z1 y0 y1;go_wp2_with fail;go_ret;exact⟨rfl,b9.trans ((below_regrown _ dq osq).mono (by simp))⟩
   . have hrf:r=false:=by rw[HRR.out,bG7 hq]
     subst hrf;have g0:decide (0<=p)=true:=decide_eq_true h0;have g1:decide (p<(N:Int))=true:=decide_eq_true hlt;have g2:decide (0<=q)=false:=decide_eq_false hq;clear HR HRR;go_enter Tryz.func145,Tryz.ntmps145;go_wp2_with fail;go_quiet (fail);go_wp2_with fail;go_ret;exact⟨rfl,b9.trans (av4 _ _ _)⟩
  . have hrf:r=false:=by rw[HRR.out,bG6 (by rw[<- HN.out];exact hlt)]
    subst hrf;have g0:decide (0<=p)=true:=decide_eq_true h0;have g1:decide (p<(N:Int))=false:=decide_eq_false hlt;clear HR HRR;go_enter Tryz.func145,Tryz.ntmps145;go_wp2_with fail;go_quiet (fail);go_wp2_with fail;go_ret;exact⟨rfl,b9.trans (av4 _ _ _)⟩
 . have hrf:r=false:=by rw[HRR.out,bG5 h0]
   subst hrf;have g0:decide (0<=p)=false:=decide_eq_false h0;clear HR HRR;go_enter Tryz.func145,Tryz.ntmps145;go_wp2_with fail;go_quiet (fail);go_wp2_with fail;go_ret;exact⟨rfl,b9.trans (av4 _ _ _)⟩
theorem aU8 {w w':World} (hb:Bq w w'):w.grownBy w' none:=⟨hb.os,hb.tape,hb.output,hb.size,fun k hk _=>hb.block k hk⟩
theorem J8.below {w w':World} {R:Value->Option (DataW Unit × List MemPlace)} {b n:Nat} {t:List (Int × Int)} (h:J8 w R b n t) (hb:Bq w w'):J8 w' R b n t:=by obtain⟨D,h1,h2⟩:=h;exact⟨D,h1.kept (aU8 hb) (by simp),h2⟩
theorem J8.put {w w' W:World} {R:Value->Option (DataW Unit × List MemPlace)} {b n:Nat} {t:List (Int × Int)} {D d:DataW Unit} {p:Int × Int} (h1:w.ownsMap Tryz.prog 79 R b n D) (h2:∀p,WfP p->Go.Maps.has D (as1 p)=decide (p∈t)) (h3:Go.Maps.size D=t.length) (h4:∀p∈t,WfP p)
 (hp:WfP p) (hn:p∉t) (ho:w'.ownsMap Tryz.prog 79 R b (n+1) (D.put (as1 p) d)):J8 w' R b (n+1) (t++[p]):=by
 refine⟨_,ho,fun q hq=>?_,?_,?_⟩
 .
  by_cases e:q=p
  . subst e;rw[Go.Maps.has_put_same h1.isMap (bN5 w q hq)];simp
  . rw[Go.Maps.has_put_other (fun h=>e (ba4 w hq hp h)),h2 q hq];simp[e]
 . rw[Go.Maps.size_put (h1.tidy aa3),h2 p hp,decide_eq_false hn,h3];simp
 . intro q hq;rcases List.mem_append.1 hq with hq | hq
   . exact h4 q hq
   . rw[List.mem_singleton.1 hq];exact hp
theorem bG9 (w:World) (o:Obj) (R:Value->Option (DataW Unit × List MemPlace)):J8 ((w.alloc o).alloc (.map #[] 0)) R (w.heap.size+1) 0 []:=by refine⟨.map [],?_,fun p _=>by simp[Go.Maps.has],by simp[Go.Maps.size],by simp⟩;have:=World.ownsMap_made (w.alloc o) Tryz.prog 79 R;simpa using this
theorem bV1 {w w1 w2:World} {o:Obj} (h:Below (w.heap.size+1) (w.alloc o) w1) (hg:w1.grownBy w2 (some (w.heap.size+1))):Below (w.heap.size+1) (w.alloc o) w2:=
 h.grown hg (by have:=h.size;simpa using this) (fun k hk=>by simp only[Option.some.injEq] at hk;omega)
theorem aI6 {w w':World} {a:Value} {t:TypeId} (hb:Below (w.heap.size+1) (w.alloc (.cells #[a] t)) w'):w'.cell? ⟨w.heap.size,0,none⟩=some a:=by rw[hb.cell (by simp),cell_of_row _ _ _ _ _ _ (heap_alloc_new w _)];rfl
def Q9 (w:World) (b:Nat) (x0 x1 x2 x3 x4 x5 x6 x7:Value):Prop:=
 w.cell? ⟨b,0,none⟩=some x0/\w.cell? ⟨b,1,none⟩=some x1/\w.cell? ⟨b,2,none⟩=some x2/\w.cell? ⟨b,3,none⟩=some x3/\w.cell? ⟨b,4,none⟩=some x4/\w.cell? ⟨b,5,none⟩=some x5/\w.cell? ⟨b,6,none⟩=some x6/\w.cell? ⟨b,7,none⟩=some x7
theorem Q9.grown {w w':World} {b:Nat} {x0 x1 x2 x3 x4 x5 x6 x7:Value} {row:Option Nat} (h:Q9 w b x0 x1 x2 x3 x4 x5 x6 x7) (hg:w.grownBy w' row) (hne:some b≠row):Q9 w' b x0 x1 x2 x3 x4 x5 x6 x7:=by obtain⟨a0,a1,a2,a3,a4,a5,a6,a7⟩:=h;have hlt:b<w.heap.size:=bLt w _ a0;have k:∀(i:Nat) (v:Value),w.cell? ⟨b,i,none⟩=some v->w'.cell? ⟨b,i,none⟩=some v:=fun i v hv=>(show w'.cell? ⟨b,i,none⟩=w.cell? ⟨b,i,none⟩ from World.cell?_of_block (hg.block b hlt hne)).trans hv;exact⟨k 0 _ a0,k 1 _ a1,k 2 _ a2,k 3 _ a3,k 4 _ a4,k 5 _ a5,k 6 _ a6,k 7 _ a7⟩
theorem Q9.below {w w':World} {b:Nat} {x0 x1 x2 x3 x4 x5 x6 x7:Value} (h:Q9 w b x0 x1 x2 x3 x4 x5 x6 x7) (hb:Bq w w'):Q9 w' b x0 x1 x2 x3 x4 x5 x6 x7:=h.grown (aU8 hb) (by simp)
theorem aF1 {ns:List SNode} {k:Nat} {n:SNode} (h:ns[k]? = some n):G7 (ns.take (k+1))=G7 (ns.take k)+nouts n:=by unfold G7;rw[ac6 h,List.map_append,List.sum_append];simp
theorem aM2 {n:SNode} (h:l7 n=0):0<=nouts n/\nouts n<=5:=by
 obtain⟨h1,_,_⟩:=G8 h;unfold nouts;rcases I9 h1 with ⟨h3 | h3,_⟩ | ⟨h3,h4,h5⟩ | ⟨h3,h4⟩ | ⟨h3,h4⟩
 . rw[if_neg (by omega),if_neg (by omega)];omega
 . rw[if_neg (by omega),if_pos h3];omega
 . rw[if_pos h3];omega
 . rw[if_neg (by omega),if_neg (by omega)];omega
 . rw[if_neg (by omega),if_neg (by omega)];omega
theorem bV2 {n:SNode} (h:l7 n=0):n.ins.length<=5:=by
 obtain⟨h1,h2,_⟩:=G8 h;unfold M1 at h2;by_cases g1:n.kind=1
 . rw[if_pos g1] at h2;have:=of_decide_eq_true h2;omega
 . rw[if_neg g1] at h2;by_cases g4:n.kind=4
   . rw[if_pos g4] at h2;exact (of_decide_eq_true h2).2
   . rw[if_neg g4] at h2;have:=of_decide_eq_true h2;omega
theorem ci6 {ns ahead r:List SNode} {n:SNode} {t:List (Int × Int)} (h:y8 [] ns []=y8 ahead (n::r) t) (hn:l7 n≠0):(y8 [] ns []).1=l7 n:=by rw[h];unfold y8;rw[if_pos hn]
theorem bM1 {ns ahead r:List SNode} {n:SNode} {t:List (Int × Int)} (h:y8 [] ns []=y8 ahead (n::r) t) (hn:l7 n=0) (hi:(D4 ahead n.ins t).1≠0):(y8 [] ns []).1=(D4 ahead n.ins t).1:=by rw[h];unfold y8;rw[if_neg (by simp[hn]),if_pos hi]
theorem bw2 {ns ahead r:List SNode} {n:SNode} {t:List (Int × Int)} (h:y8 [] ns []=y8 ahead (n::r) t) (hn:l7 n=0) (hi:(D4 ahead n.ins t).1=0) (hl:r.isEmpty≠decide (n.kind=5)):(y8 [] ns []).1=4:=by rw[h];unfold y8;rw[if_neg (by simp[hn]),if_neg (by simp[hi]),if_pos hl]
theorem bw3 {ns ahead r:List SNode} {n:SNode} {t:List (Int × Int)} (h:y8 [] ns []=y8 ahead (n::r) t) (hn:l7 n=0) (hi:(D4 ahead n.ins t).1=0) (hl:r.isEmpty=decide (n.kind=5)):y8 [] ns []=y8 (ahead++[n]) r (D4 ahead n.ins t).2:=by
 rw[h];conv=>lhs;unfold y8
 rw[if_neg (by simp[hn]),if_neg (by simp[hi]),if_neg (by simp[hl])]
theorem cr4 {ahead:List SNode} {ps t t' r:List (Int × Int)} {p:Int × Int} (h:D4 ahead ps t=D4 ahead (p::r) t') (hp:A7 ahead p=false):(D4 ahead ps t).1=5:=by rw[h];unfold D4;rw[if_pos hp]
theorem bV3 {ahead:List SNode} {ps t t' r:List (Int × Int)} {p:Int × Int} (h:D4 ahead ps t=D4 ahead (p::r) t') (hp:A7 ahead p=true) (ht:p∈t'):(D4 ahead ps t).1=6:=by rw[h];unfold D4;rw[if_neg (by simp[hp]),if_pos ht]
theorem ci7 {ahead:List SNode} {ps t t' r:List (Int × Int)} {p:Int × Int} (h:D4 ahead ps t=D4 ahead (p::r) t') (hp:A7 ahead p=true) (ht:p∉t'):D4 ahead ps t=D4 ahead r (t'++[p]):=by
 rw[h];conv=>lhs;unfold D4
 rw[if_neg (by simp[hp]),if_neg ht]
theorem ci8 {ahead:List SNode} {ps t t':List (Int × Int)} (h:D4 ahead ps t=D4 ahead [] t'):D4 ahead ps t=(0,t'):=by rw[h];rfl
theorem bV4 {ns:List SNode} (h:60<ns.length):gchk ns=2:=by unfold gchk;rw[if_pos h]
theorem av5 {ns:List SNode} (h:ns.length<=60) {r:Int} (hr:(y8 [] ns []).1=r) (h0:r≠0):gchk ns=r:=by unfold gchk;rw[if_neg (by omega),if_pos (by rw[hr];exact h0),hr]
theorem ci9 {ns:List SNode} (h:ns.length<=60) {t:List (Int × Int)} (hr:y8 [] ns []=(0,t)):gchk ns=if ns.length=0\/(t.length:Int)≠G7 ns then 4 else 0:=by unfold gchk;rw[if_neg (by omega),hr];simp
theorem bV5 {ps:List (Int × Int)} {k:Nat} {p:Int × Int} (h:ps[k]? = some p):ps.drop k=p::ps.drop (k+1):=by obtain⟨hk,e⟩:=gSm h;rw[<- e,<- List.drop_eq_getElem_cons hk]
end Go.Proofs.YtllgglolcgdehaaGreatDoor
namespace Go.Proofs.YtllgglolcgdehaaGreatDoor
open Go.RowKit Go.Gs Go.Maps
set_option linter.unusedVariables false
theorem bw4 (w:World):(zeroValue 3).run Tryz.prog w=.ok (.int .i64 0) w:=by kernel_rfl
theorem cj0 {k:Nat} (h:k<=60):(Lit.int .i64 (k:Int)).wf=true:=by simp[Lit.wf,IntKind.min,IntKind.max,IntKind.signed,IntKind.bits];omega
theorem aI7 (ns:List SNode) (ao:Option Addr) (cap:Nat) (w:World) (hr:A2 w (.slice ao ns.length cap) ns) (Ad:∀n∈ns,M4 n) :
 Calls Tryz.prog 93 #[.agg #[.slice ao ns.length cap]] w fun e w'=>e=.returned (.int .i64 (gchk ns))/\Bq w w':=by
 have hle:=ac3 hr;have HR:=qH hr;have En:=qH Ad;obtain⟨N,hN⟩:=qE ns.length;have HN:=qH hN;obtain⟨r,hrr⟩:=qE (gchk ns);have HRR:=qH hrr;rw[<- hN,<- hrr];rw[<- hN] at HR hle;clear hr hN hrr Ad;by_cases h60:60<N
 .
  have hr2:r=2:=by rw[HRR.out,bV4 (by rw[<- HN.out];exact h60)]
  subst hr2;have hq:(60:Int)<N:=by omega
  clear HR HRR;go_enter Tryz.func93,Tryz.ntmps93;go_wp2_with fail;go_ret;exact⟨rfl,b9⟩
 .
  have hq:¬(60:Int)<N:=by omega
  have Ew:N<=60:=by omega
  have hmm:=@run_makeMap Tryz.prog;go_enter Tryz.func93,Tryz.ntmps93;go_wp2_with fail;go_loopw [4,21] (fun ov i wr=>∃k:Nat,∃t:List (Int × Int),∃os:Nat,k<=N/\i=.int .i64 k/\ov=.int .i64 os/\os<=5*k/\Hid ((os:Int)=G7 (ns.take k))/\Hid (t.length<=5*k)/\Hid (y8 [] ns []=y8 (ns.take k) (ns.drop k) t)/\Hid (J8 wr (plainElem Tryz.prog 3) (w.heap.size+1) t.length t)/\Hid (Below (w.heap.size+1) (w.alloc (.cells #[.slice ao N cap] 24)) wr)) (fun _ i _=>N-(intOf i).toNat)
  case atStart=>exact⟨0,[],0,Nat.zero_le _,rfl,rfl,Nat.le_refl _,(show _=_ from rfl),(show _<=_ from Nat.le_refl _),(show _=_ by simp),bG9 w _ _,(Below.refl _ _).alloc (by simp) _⟩
  case round=>
   obtain⟨k,t,os,hk,rfl,rfl,hos,HOS,HTL,HG,HPA,Aa⟩:=hrel;obtain⟨wo,hwo⟩:=qE wr;subst hwo;have hgx:=aI6 Aa.out;have HBW:Hid (Bq w wo):=b9.trans (Aa.out.mono (by simp));by_cases hlt:k<N
   .
    obtain⟨n,hn⟩:∃n,ns[k]? = some n:=⟨_,gEl (by have:=HN.out;omega)⟩;obtain⟨b,off,ai,ci,rfl,hNA,HP⟩:=HR.out.at hn;obtain⟨c0,c1,c2,c3,c4,c5,c6,c7⟩:=hNA.below HBW.out;have hil:=(L2 HP);have hfn:=En.out n (mGt hn);have HCN:Hid _:=fun W=>aE6 n ai ci W hfn (by omega);obtain⟨nc,hnc⟩:=qE (l7 n);have HNC:=qH hnc;rw[<- hnc] at HCN;have HOU:Hid _:=fun W=>aE5 n ai n.ins.length ci W;have HDR:Hid (ns.drop k=n::ns.drop (k+1)):=Y0 hn;have HNN:=qH hn;have HFN:=qH hfn;obtain⟨nk,hnk⟩:=qE n.kind;have HNK:=qH hnk;obtain⟨ni,hni⟩:=qE n.ins.length;have HNI:=qH hni;have HPW:=qH HP;obtain⟨no,hno⟩:=qE (nouts n);have HNO:=qH hno;unfold D2 at HCN HOU;rw[<- hnk,<- hni] at HCN;rw[<- hnk,<- hni,<- hno] at HOU;rw[<- hni] at c7 hil HPW;rw[<- hnk] at c0;generalize (⟨n.file.toArray⟩:ByteArray)=fx at *;generalize (⟨n.c.word.toArray⟩:ByteArray)=wx0 at *;generalize n.c.kind=ck at *
    generalize n.c.n=cn at *;generalize n.how=hw at *;generalize n.wide=wd at *;clear hn hfn hnc hnk hni HP hno hNA;go_wp2_with fail;refine (HCN.out _).mono ?_;rintro e w1 ⟨rfl,hb1⟩;have HC8:Hid (Q9 w1 wo.heap.size (.int .i64 nk) (.string fx) (.int .i64 ck) (.string wx0) (.int .i64 cn) (.int .i64 hw) (.int .i64 wd) (.slice ai ni ci)):=aa0 hb1;have HBX:Hid (Bq wo w1):=b9.trans (hb1.mono (by simp));have HB1:Hid (Below (w.heap.size+1) (w.alloc (.cells #[.slice (some ⟨b,off,none⟩) N cap] 24)) w1):=Aa.out.trans (HBX.out.mono (by have:=Aa.out.size;simpa using this));have Vf:Hid (J8 w1 (plainElem Tryz.prog 3) (w.heap.size+1) t.length t):=HPA.out.below HBX.out;have HNB:Hid (w.heap.size+1<wo.heap.size):=(show _<_ from by obtain⟨D,h1,_⟩:=HPA.out;exact h1.lt);clear hb1 HCN hgx c0 c1 c2 c3 c4 c5 c6 c7;by_cases Vg:nc=0
    .
     subst Vg;have hni5:ni<=5:=by rw[HNI.out];exact bV2 HNC.out.symm
     obtain⟨y0,y1,y2,y3,y4,y5,y6,y7⟩:=id HC8.out;go_wp2_with fail;go_loopw [34] (fun j wx=>∃m:Nat,∃t':List (Int × Int),m<=ni/\j=.int .i64 m/\Hid (t'.length<=5*k+m)/\Hid (D4 (ns.take k) n.ins t=D4 (ns.take k) (n.ins.drop m) t')/\Hid (J8 wx (plainElem Tryz.prog 3) (w.heap.size+1) t'.length t')/\Hid (Q9 wx wo.heap.size (.int .i64 nk) (.string fx) (.int .i64 ck) (.string wx0) (.int .i64 cn) (.int .i64 hw) (.int .i64 wd) (.slice ai ni ci))/\Hid (Below (w.heap.size+1) (w.alloc (.cells #[.slice (some ⟨b,off,none⟩) N cap] 24)) wx)) (fun j _=>ni-(intOf j).toNat)
     case atStart=>exact⟨0,t,Nat.zero_le _,rfl,HTL,(show _=_ by simp),Vf,HC8,HB1⟩
     case round=>
      clear Vf HC8 HB1 y0 y1 y2 y3 y4 y5 y6 y7;obtain⟨m,t',hm,rfl,Im,HI,Io,HC8,Dj⟩:=hrel;have hgx:=aI6 Dj.out;have Ik:Hid (Bq w wr):=b9.trans (Dj.out.mono (by simp));obtain⟨y0,y1,y2,y3,y4,y5,y6,y7⟩:=id HC8.out;by_cases hmlt:m<ni
      .
       obtain⟨p,hp⟩:∃p,n.ins[m]? = some p:=⟨_,gEl (by have:=HNI.out;omega)⟩;have HBR:=qH Ik;obtain⟨pb,po,rfl,p0,p1⟩:=(E2.below HPW.out HBR.out).at hp;have Nr:WfP p:=HFN.out.2.2 p (mGt hp);have HDP:Hid (n.ins.drop m=p::n.ins.drop (m+1)):=bV5 hp;obtain⟨pp,pq⟩:=p;simp only at p0 p1;have HWP:=qH Nr;have Ns:(ns.take k).length=k:=by rw[List.length_take];have:=HN.out;omega
       have HHP:Hid _:=fun (W:World) (hb:Bq w W)=>bG8 (ns.take k) (some ⟨b,off,none⟩) cap pp pq W (by rw[Ns];exact (HR.out.below hb).take k (by have:=HN.out;omega));rw[Ns] at HHP;obtain⟨po2,Cf⟩:=qE (A7 (ns.take k) (pp,pq));have HPO:=qH Cf;rw[<- Cf] at HHP;have hkc:k<=cap:=by omega
       clear hp Nr Cf Ns;have hbx:Bq w (wr.alloc (.cells #[.int .i64 pp,.int .i64 pq] 79)):=HBR.out.trans (b9.mono HBR.out.size);have cF:∀d os,Calls Tryz.prog 145 #[.slice (some ⟨b,off,none⟩) k cap,.agg #[.int .i64 pp,.int .i64 pq]] (Go.Sort.grow (redrawn (wr.alloc (.cells #[.int .i64 pp,.int .i64 pq] 79)) d) os) fun e w''=>e=.returned (.bool po2) /\ ∃p:Regrown,w''=Go.Sort.grow (redrawn (wr.alloc (.cells #[.int .i64 pp,.int .i64 pq] 79)) p.d) p.os:=fun d os=>Calls.regrown_of (HHP.out _ (hbx.trans ((below_regrown _ d os).mono hbx.size)));obtain⟨q0,q1⟩:=aU7 (w:=wr) (a:=.int .i64 pp) (b:=.int .i64 pq) (t:=79) (Below.refl _ _);have z0:=fun d os=>cell_regrown q0 d os;have z1:=fun d os=>cell_regrown q1 d os;have z2:=fun d os=>cell_regrown ((b9 (o:=.cells #[.int .i64 pp,.int .i64 pq] 79)).cell (bLt wr _ hgx) |>.trans hgx) d os;go_wp2_with fail
       refine wp_region_quiet_below (by kernel_rfl) (by kernel_rfl) ?_;repeat (first | go_big_quiet_step (exact cF _ _) | quiet_step (exact cF _ _))
       refine wpQuiet_nil ?_;intro _ hw';obtain⟨⟨dq,osq⟩,Da⟩:=hw';subst Da;have HBQ:Hid (Bq wr (Go.Sort.grow (redrawn (wr.alloc (.cells #[.int .i64 pp,.int .i64 pq] 79)) dq) osq)):=b9.trans ((below_regrown _ dq osq).mono (by simp));have k0:=z0 dq osq;have k1:=z1 dq osq;clear cF z0 z1 z2 q0 q1 HHP hbx;generalize Go.Sort.grow (redrawn (wr.alloc (.cells #[.int .i64 pp,.int .i64 pq] 79)) dq) osq=wq at *;have Ky:Hid (Below (w.heap.size+1) (w.alloc (.cells #[.slice (some ⟨b,off,none⟩) N cap] 24)) wq):=Dj.out.trans (HBQ.out.mono (by have:=Dj.out.size;simpa using this));have Qg:Hid (J8 wq (plainElem Tryz.prog 3) (w.heap.size+1) t'.length t'):=Io.out.below HBQ.out;have Qh:Hid (Q9 wq wo.heap.size (.int .i64 nk) (.string fx) (.int .i64 ck) (.string wx0) (.int .i64 cn) (.int .i64 hw) (.int .i64 wd) (.slice (some ⟨pb,po,none⟩) ni ci)):=HC8.out.below HBQ.out
       clear HC8 Io y0 y1 y2 y3 y4 y5 y6 y7 hgx p0 p1 Dj
       cases po2 with
       | false=>
        have hr5:r=5:=by
         have h5:=cr4 (HI.out.trans (by rw[HDP.out])) HPO.out.symm
         rw[HRR.out,av5 (by rw[<- HN.out];exact Ew) ((bM1 (HG.out.trans (by rw[HDR.out])) HNC.out.symm (by rw[h5];decide)).trans h5) (by decide)]
        subst hr5
        have HBF:Hid (Bq w wq):=b9.trans (Ky.out.mono (by simp))
        clear Qg Qh Ky
        go_wp2_with fail
        go_ret
        exact⟨rfl,HBF.out⟩
       | true=>
        obtain⟨D,Ab,Jg,Eo,Ze⟩:=id Qg.out
        have Qi:keyOf Tryz.prog 79 (.agg #[.int .i64 pp,.int .i64 pq])=some (as1 (pp,pq)):=ah1 wq (pp,pq) HWP.out
        have hh:=Jg (pp,pq) HWP.out
        have Zf:Hid _:=Jg
        have Zg:Hid _:=Eo
        have Zh:Hid _:=Ze
        clear Jg Eo Ze
        by_cases hin:(pp,pq)∈t'
        . have hr6:r=6:=by
           have h6:=bV3 (HI.out.trans (by rw[HDP.out])) HPO.out.symm hin
           rw[HRR.out,av5 (by rw[<- HN.out];exact Ew) ((bM1 (HG.out.trans (by rw[HDR.out])) HNC.out.symm (by rw[h6];decide)).trans h6) (by decide)]
          subst hr6
          rw[decide_eq_true hin] at hh
          have HBF:Hid (Bq w wq):=b9.trans (Ky.out.mono (by simp))
          clear Qg Qh Ky
          go_wp2_with (at_lookup;refine wpList_lookup_own_ok_int _ rfl _ _ 109 rfl 79 3 .i64 aa3 Tryz.underlying109 Tryz.underlying3 (bw4 _) (w.heap.size+1) _ D rfl Ab _ _ rfl Qi ?_;intro cc hat hwc;rw[hh])
          go_ret
          exact⟨rfl,HBF.out⟩
        .
         rw[decide_eq_false hin] at hh
         have hn0:t'.length<maxLen:=by have:=Im.out;unfold maxLen;omega
         have hwk:=cj0 (show k<=60 by omega)
         have HI2:Hid (D4 (ns.take k) n.ins t=D4 (ns.take k) (n.ins.drop (m+1)) (t'++[(pp,pq)])):=(show _=_ from ci7 (HI.out.trans (by rw[HDP.out])) HPO.out.symm hin)
         have Nu:Hid ((t'++[(pp,pq)]).length<=5*k+(m+1)):=(show _<=_ by have:=Im.out;simp;omega)
         go_wp2_with (first
          | (at_lookup;refine wpList_lookup_own_ok_int _ rfl _ _ 109 rfl 79 3 .i64 aa3 Tryz.underlying109 Tryz.underlying3 (bw4 _) (w.heap.size+1) _ D rfl Ab _ _ rfl Qi ?_;intro cc hat hwc;rw[hh];clear hat hwc)
          | (at_mapUpdate;refine wpList_mapUpdate_own _ rfl _ _ _ 109 rfl 79 3 aa3 Tryz.underlying109 _ (w.heap.size+1) t'.length D rfl Ab hn0 _ _ _ rfl rfl Qi _ [] (plainElem_int Tryz.underlying3 hwk) ?_;intro w5 ho5 hg5))
         have HP5:Hid (J8 w5 (plainElem Tryz.prog 3) (w.heap.size+1) (t'++[(pp,pq)]).length (t'++[(pp,pq)])):=(show J8 _ _ _ _ _ by
          have h:=J8.put (W:=w) Ab Zf.out Zg.out Zh.out HWP.out hin ho5
          simpa using h)
         have HC85:Hid (Q9 w5 wo.heap.size (.int .i64 nk) (.string fx) (.int .i64 ck) (.string wx0) (.int .i64 cn) (.int .i64 hw) (.int .i64 wd) (.slice (some ⟨pb,po,none⟩) ni ci)):=Qh.out.grown hg5 (by simp only[ne_eq,Option.some.injEq];have:=HNB.out;omega)
         have HB5:Hid (Below (w.heap.size+1) (w.alloc (.cells #[.slice (some ⟨b,off,none⟩) N cap] 24)) w5):=bV1 Ky.out hg5
         clear ho5 hg5 Ab Zf Zg Zh Qg Qh Ky Qi hh k0 k1
         go_wp2_with fail
         go_roundw
         case rel=>exact⟨m+1,_,by omega,by go_num,Nu,HI2,HP5,HC85,HB5⟩
         case measure=>simp[intOf];omega
      .
       have hmn:m=ni:=by omega
       have HID:Hid (D4 (ns.take k) n.ins t=(0,t')):=(show _=_ from ci8 (HI.out.trans (by rw[List.drop_of_length_le (by rw[<- HNI.out];omega)])));have Dt:(ns.drop (k+1)).isEmpty=decide ((k:Int)=(N:Int)-1):=by
        by_cases e:k+1=N
        . rw[decide_eq_true (by omega),List.isEmpty_iff];exact List.drop_eq_nil_of_le (by rw[<- HN.out];omega)
        . rw[decide_eq_false (by omega)]
          cases hd:ns.drop (k+1) with
          | nil=>exact absurd (List.drop_eq_nil_iff.1 hd) (by rw[<- HN.out];omega)
          | cons a b=>rfl
       have HBF:=qH Ik;by_cases hk5:nk=5
       .
        subst hk5;by_cases hkl:k+1=N
        . have q1:((k:Int) == (N:Int)-1)=true:=by simp;omega
          have he:(ns.drop (k+1)).isEmpty=decide (n.kind=5):=by rw[Dt,decide_eq_true (by omega),<- HNK.out];rfl
          have HG2:Hid (y8 [] ns []=y8 (ns.take (k+1)) (ns.drop (k+1)) t'):=(show _=_ by
           rw[bw3 (HG.out.trans (by rw[HDR.out])) HNC.out.symm (by rw[HID.out]) he,HID.out,ac6 HNN.out])
          have Vh:Hid (((os:Int)+no)=G7 (ns.take (k+1))):=(show _=_ by rw[aF1 HNN.out,<- HOS.out,<- HNO.out]);have Nu:Hid (t'.length<=5*(k+1)):=(show _<=_ by have:=Im.out;omega);have Ht:=aM2 HNC.out.symm;rw[<- HNO.out] at Ht;obtain⟨Vi,Ht⟩:=Ht;obtain⟨non,rfl⟩:=Int.eq_ofNat_of_zero_le Vi;clear HG HOS HTL Im HI HID Dt he HPA;go_wp2_with fail;refine (HOU.out _).mono ?_;rintro e w6 ⟨rfl,hb6⟩;have HB6:Hid (Below (w.heap.size+1) (w.alloc (.cells #[.slice (some ⟨b,off,none⟩) N cap] 24)) w6):=Dj.out.trans (hb6.mono (by have:=Dj.out.size;simpa using this));have Vj:Hid (J8 w6 (plainElem Tryz.prog 3) (w.heap.size+1) t'.length t'):=Io.out.below hb6;clear hb6 HOU HC8 Io Dj hgx y0 y1 y2 y3 y4 y5 y6 y7;go_wp2_with fail;go_roundw
          case rel=>exact⟨k+1,t',os+non,by omega,by go_num,by go_num,by omega,(show _=_ by rw[<- Vh.out];rfl),Nu,HG2,Vj,HB6⟩
          case measure=>simp[intOf];omega
        . have q1:((k:Int) == (N:Int)-1)=false:=by simp;omega
          have hr4:r=4:=by rw[HRR.out,av5 (by rw[<- HN.out];exact Ew) (bw2 (HG.out.trans (by rw[HDR.out])) HNC.out.symm (by rw[HID.out]) (by rw[Dt,decide_eq_false (by omega),<- HNK.out];decide)) (by decide)]
          subst hr4;clear HG HOS HTL Im HI HID Dt HPA HOU HC8 Io Dj;go_wp2_with fail;go_ret;exact⟨rfl,HBF.out⟩
       .
        have e5:(nk == 5)=false:=by simpa using hk5
        by_cases hkl:k+1=N
        . have q1:((k:Int) == (N:Int)-1)=true:=by simp;omega
          have hr4:r=4:=by rw[HRR.out,av5 (by rw[<- HN.out];exact Ew) (bw2 (HG.out.trans (by rw[HDR.out])) HNC.out.symm (by rw[HID.out]) (by rw[Dt,decide_eq_true (by omega),<- HNK.out];rw[decide_eq_false hk5];decide)) (by decide)]
          subst hr4;clear HG HOS HTL Im HI HID Dt HPA HOU HC8 Io Dj;go_wp2_with fail;go_ret;exact⟨rfl,HBF.out⟩
        . have q1:((k:Int) == (N:Int)-1)=false:=by simp;omega
          have he:(ns.drop (k+1)).isEmpty=decide (n.kind=5):=by rw[Dt,decide_eq_false (by omega),<- HNK.out];rw[decide_eq_false hk5]
          have HG2:Hid (y8 [] ns []=y8 (ns.take (k+1)) (ns.drop (k+1)) t'):=(show _=_ by
           rw[bw3 (HG.out.trans (by rw[HDR.out])) HNC.out.symm (by rw[HID.out]) he,HID.out,ac6 HNN.out])
          have Vh:Hid (((os:Int)+no)=G7 (ns.take (k+1))):=(show _=_ by rw[aF1 HNN.out,<- HOS.out,<- HNO.out]);have Nu:Hid (t'.length<=5*(k+1)):=(show _<=_ by have:=Im.out;omega);have Ht:=aM2 HNC.out.symm;rw[<- HNO.out] at Ht;obtain⟨Vi,Ht⟩:=Ht;obtain⟨non,rfl⟩:=Int.eq_ofNat_of_zero_le Vi;clear HG HOS HTL Im HI HID Dt he HPA;go_wp2_with fail;refine (HOU.out _).mono ?_;rintro e w6 ⟨rfl,hb6⟩;have HB6:Hid (Below (w.heap.size+1) (w.alloc (.cells #[.slice (some ⟨b,off,none⟩) N cap] 24)) w6):=Dj.out.trans (hb6.mono (by have:=Dj.out.size;simpa using this));have Vj:Hid (J8 w6 (plainElem Tryz.prog 3) (w.heap.size+1) t'.length t'):=Io.out.below hb6;clear hb6 HOU HC8 Io Dj hgx y0 y1 y2 y3 y4 y5 y6 y7;go_wp2_with fail;go_roundw
          case rel=>exact⟨k+1,t',os+non,by omega,by go_num,by go_num,by omega,(show _=_ by rw[<- Vh.out];rfl),Nu,HG2,Vj,HB6⟩
          case measure=>simp[intOf];omega
    . have hrn:r=nc:=by rw[HRR.out,av5 (by rw[<- HN.out];exact Ew) ((ci6 (HG.out.trans (by rw[HDR.out])) (by rw[<- HNC.out];exact Vg)).trans HNC.out.symm) Vg]
      subst hrn;have HBF:Hid (Bq w w1):=b9.trans (HB1.out.mono (by simp));clear HC8 HB1 Vf HPA HG HOS HTL;go_wp2_with fail;go_ret;exact⟨rfl,HBF.out⟩
   .
    have hkN:k=N:=by omega
    have HGE:Hid (y8 [] ns []=(0,t)):=(show _=_ by rw[HG.out,List.drop_of_length_le (by rw[<- HN.out];omega)];rfl);have Di:=ci9 (by rw[<- HN.out];exact Ew) HGE.out;have hos2:G7 ns=(os:Int):=by have h:=HOS.out;rw[hkN,HN.out,List.take_length] at h;exact h.symm
    rw[<- HRR.out,<- HN.out,hos2] at Di;obtain⟨D,Ab,Jg,Eo,hwf⟩:=HPA.out;by_cases hN0:N=0
    . subst hN0;rw[if_pos (.inl rfl)] at Di;subst Di;clear HG HGE HOS Jg Eo hwf Ab HPA HTL;go_wp2_with fail;go_ret;exact⟨rfl,HBW.out⟩
    .
     have e0:((N:Int) == 0)=false:=by simp;omega
     have hsz:Go.Maps.size D=t.length:=Eo;by_cases heq:(t.length:Int)=(os:Int)
     . rw[if_neg (by rintro (h | h);exact hN0 h;exact h heq)] at Di;subst Di;have hto:t.length=os:=by omega
       rw[hto] at hsz Ab;have hlen:=fun ty=>Ab.len Tryz.underlying109 ty;rw[hsz] at hlen;clear HG HGE HOS Jg Eo hwf HPA HTL heq hto;go_wp2_with fail;go_ret;exact⟨rfl,HBW.out⟩
     . rw[if_pos (.inr heq)] at Di;subst Di;obtain⟨tl,htl⟩:=qE t.length;rw[<- htl] at hsz Ab heq;have hne:((tl:Int) == (os:Int))=false:=by simpa using heq
       have hlen:=fun ty=>Ab.len Tryz.underlying109 ty;rw[hsz] at hlen;clear HG HGE HOS Jg Eo hwf HPA HTL htl;go_wp2_with fail;go_ret;exact⟨rfl,HBW.out⟩
end Go.Proofs.YtllgglolcgdehaaGreatDoor
namespace Go.Proofs.YtllgglolcgdehaaGreatDoor
open Go.RowKit Go.Gs
set_option linter.unusedVariables false
theorem bw5 (n:List UInt8) (W:World) (hn:n.length<=9223372036854775807) (iw:Bool) (h:isWord n=iw) :
 Calls Tryz.prog 103 #[.string ⟨n.toArray⟩] W fun e w'=>e=.returned (.bool iw)/\Bq W w':=by refine (aD7 n W hn).mono ?_;rintro e w' ⟨rfl,rfl⟩;exact⟨by rw[h],Below.refl _ _⟩
theorem aa9 (ao:Option Addr) (cap:Nat) (fs:List SFile) (w:World) (hf:j9 w (.slice ao fs.length cap) fs) (Ad:∀f∈fs,M3 f) :
 Calls Tryz.prog 39 #[.slice ao fs.length cap] w fun e w'=>e=.returned (.int .i64 (fchk fs))/\Bq w w':=by
 have hle:=ac2 hf;have HF:=qH hf;have En:Hid _:=Ad;obtain⟨N,hN⟩:=qE fs.length;have HN:=qH hN;have hN1:N<=9223372036854775807:=by omega
 rw[<- hN] at HF ⊢;by_cases Nv:12<N
 . have HR:Hid (fchk fs=2):=(show _=_ by unfold fchk;rw[if_pos (by omega)]);have hq:(12:Int)<N:=by omega
   clear hf Ad hle hN;go_enter Tryz.func39,Tryz.ntmps39;go_wp2_with fail;go_ret;exact⟨by rw[HR.out];rfl,Below.refl _ _⟩
 .
  have HR:Hid (fchk fs=q8 none fs):=ce8 (by omega);have Zi:N<=12:=by omega
  clear hf Ad hle hN Nv hN1;go_enter Tryz.func39,Tryz.ntmps39;go_wp2_with fail;go_loopw [10] (fun i wr=>∃k:Nat,k<=N/\i=.int .i64 k/\Hid (Bq w wr)/\Hid (q8 none (fs.take k)=0)) (fun i _=>N-(intOf i).toNat)
  case atStart=>exact⟨0,Nat.zero_le _,rfl,Below.refl _ _,(show _=_ from rfl)⟩
  case round=>
   obtain⟨k,hk,rfl,Aa,hno⟩:=hrel;by_cases hlt:k<N
   .
    obtain⟨f,hfk⟩:∃f,fs[k]? = some f:=⟨_,gEl (by have:=HN.out;omega)⟩;have HFK:=qH hfk;have HRk:Hid (j9 wr (.slice ao N cap) fs):=j9.below HF.out Aa.out;obtain⟨b,off,ab,cb,rfl,hc0,hc1,hr⟩:=HRk.out.at hfk;obtain⟨iw,hiw⟩:=qE (isWord f.name);have HIW:=qH hiw;have HW:Hid _:=fun (W:World)=>bw5 f.name W (En.out f (mGt hfk)) iw hiw.symm;have hbl:=am3 hr;obtain⟨L,hL⟩:=qE f.b.length;have HL:=qH hL;rw[<- hL] at hc1 hbl;obtain⟨fx,hfx⟩:=qE (⟨f.name.toArray⟩:ByteArray);have HFX:=qH hfx;rw[<- hfx] at hc0 HW;clear hfk hr hiw hL hfx;go_wp2_with fail;have hQ:=HW.out (wr.alloc (.cells #[.string fx,.slice ab L cb] 83));refine Calls.mono hQ ?_;rintro e w2 ⟨rfl,hb2⟩;obtain⟨hx0,hx1⟩:=bD2 hb2;have HB2:Hid (Bq w w2):=(Aa.out.alloc Aa.out.size _).trans (hb2.mono (by simp;exact Nat.le_succ_of_le Aa.out.size))
    have HR2:Hid (j9 w2 (.slice (some ⟨b,off,none⟩) N cap) fs):=j9.below (j9.below HRk.out F6) hb2;clear hQ hb2 HW hc0 hc1
    cases iw with
    | false=>
     have HB:Hid (fbad (M9 none (fs.take k)) f=1):=(show _=_ by unfold fbad;rw[if_pos HIW.out.symm])
     have HE:Hid (fchk fs=1):=(show _=_ by rw[HR.out,aR9 HFK.out hno.out (by rw[HB.out];decide),HB.out])
     clear hno HB
     go_wp2_with fail
     go_ret
     exact⟨by rw[HE.out];rfl,HB2.out⟩
    | true=>
     by_cases hl4:4000<L
     . have HB:Hid (fbad (M9 none (fs.take k)) f=2):=(show _=_ by unfold fbad;rw[if_neg (by simp[<- HIW.out]),if_pos (by have:=HL.out;omega)])
       have HE:Hid (fchk fs=2):=(show _=_ by rw[HR.out,aR9 HFK.out hno.out (by rw[HB.out];decide),HB.out])
       have hq:(4000:Int)<L:=by omega
       clear hno HB
       go_wp2_with fail
       go_ret
       exact⟨by rw[HE.out];rfl,HB2.out⟩
     .
      have hq:¬(4000:Int)<L:=by omega
      have HB:Hid (fbad (M9 none (fs.take k)) f=match M9 none (fs.take k) with | none=>0 | some q=>if q<f.name then 0 else 6):=(show _=_ by unfold fbad;rw[if_neg (by simp[<- HIW.out]),if_neg (by have:=HL.out;omega)];rfl)
      by_cases hk0:k=0
      . subst hk0
        have HG:Hid (q8 none (fs.take 1)=0):=bd3 HFK.out hno.out (by rw[HB.out];rfl)
        clear hno HB
        go_wp2_with fail
        go_region
        all_goals go_wp2_with fail
        all_goals go_roundw
        case rel=>exact⟨1,by omega,rfl,HB2.out.drew,HG⟩
        case measure=>simp[intOf];omega
      .
       obtain⟨m,rfl⟩:∃m,k=m+1:=⟨k-1,by omega⟩
       obtain⟨g,hg⟩:∃g,fs[m]? = some g:=⟨_,gEl (by have:=HN.out;omega)⟩
       have hln:M9 none (fs.take (m+1))=some g.name:=bQ3 hg
       obtain⟨b',off',ab',cb',e0,hg0,hg1,_⟩:=HR2.out.at hg
       injection e0 with e0
       injection e0 with e1 e2
       subst e1 e2
       have hk1:(0:Int)<((m+1:Nat):Int):=by omega
       have Yu:((m+1:Nat):Int)-1=(m:Int):=by omega
       have hmN:m<N:=by omega
       have hls:=br4 f.name g.name
       have hes:=aO8 f.name g.name
       rw[hln] at HB
       simp only at HB
       by_cases Hu:g.name<f.name
       .
        have HG:Hid (q8 none (fs.take (m+1+1))=0):=bd3 HFK.out hno.out (by rw[hln,HB.out,if_pos Hu])
        have Qd:Op.bytesLess fx.toList (⟨g.name.toArray⟩:ByteArray).toList=false:=by
         rw[HFX.out,ByteArray.toList_eq,ByteArray.toList_eq]
         show Op.bytesLess f.name g.name=false
         rw[hls]
         exact decide_eq_false (fun h=>List.lt_irrefl _ (List.lt_trans Hu h))
        have Kz:(fx.toList == (⟨g.name.toArray⟩:ByteArray).toList)=false:=by rw[HFX.out,hes];exact decide_eq_false (fun h=>List.lt_irrefl _ (h ▸ Hu))
        generalize (⟨g.name.toArray⟩:ByteArray)=gx at *
        clear hno HB hls hes hln Hu hg hg1
        go_wp2_with fail
        go_quiet (fail)
        all_goals go_wp2_with fail
        all_goals go_roundw
        case rel=>exact⟨m+1+1,by omega,by go_num,belowq HB2.out _,HG⟩
        case measure=>simp[intOf];omega
       .
        have HE:Hid (fchk fs=6):=(show _=_ by rw[HR.out,aR9 HFK.out hno.out (by rw[hln,HB.out,if_neg Hu];decide),hln,HB.out,if_neg Hu])
        obtain⟨d1,hd1⟩:=qE (Op.bytesLess fx.toList (⟨g.name.toArray⟩:ByteArray).toList)
        obtain⟨d2,hd2⟩:=qE ((fx.toList == (⟨g.name.toArray⟩:ByteArray).toList))
        have hor:d1=true\/d2=true:=by
         rw[hd1,hd2,HFX.out,hes]
         by_cases hfg:f.name=g.name
         . exact .inr (decide_eq_true hfg)
         . left
           rw[ByteArray.toList_eq,ByteArray.toList_eq]
           show Op.bytesLess f.name g.name=true
           rw[hls]
           have h3:f.name<=g.name:=List.not_lt.1 Hu
           by_cases h:f.name<g.name
           . exact decide_eq_true h
           . exact absurd (List.le_antisymm h3 (List.not_lt.1 h)) hfg
        generalize (⟨g.name.toArray⟩:ByteArray)=gx at *
        clear hno HB hls hes hln Hu hg hg1
        rcases hor with rfl | rfl
        . have hd1':=hd1.symm
          clear hd1 hd2
          go_wp2_with fail
          go_quiet (fail)
          all_goals go_wp2_with fail
          all_goals go_ret
          all_goals exact⟨by rw[HE.out];rfl,belowq HB2.out _⟩
        . have hd2':=hd2.symm
          clear hd1 hd2
          go_wp2_with fail
          go_quiet (fail)
          all_goals go_wp2_with fail
          all_goals go_ret
          all_goals exact⟨by rw[HE.out];rfl,belowq HB2.out _⟩
   .
    have HE:Hid (fchk fs=0):=(show _=_ by
     rw[HR.out]
     have e:=hno.out
     rw[List.take_of_length_le (by have:=HN.out;omega)] at e
     exact e)
    clear hno;go_wp2_with fail;go_ret;exact⟨by rw[HE.out];rfl,Aa.out⟩
theorem bl0:∀(a b:List UInt8),(Lib.compareBytes a b = -1/\a<b)\/(Lib.compareBytes a b=0/\a=b)\/(Lib.compareBytes a b=1/\b<a)
 | [],[]=>by simp[Lib.compareBytes]
 | [],_::_=>by simp[Lib.compareBytes]
 | _::_,[]=>by simp[Lib.compareBytes]
 | x::a,y::b=>by
  rw[Lib.compareBytes]
  by_cases h1:x<y
  . rw[if_pos h1];left;exact⟨rfl,List.cons_lt_cons_iff.2 (.inl h1)⟩
  .
   rw[if_neg h1]
   by_cases h2:y<x
   . rw[if_pos h2];right;right;exact⟨rfl,List.cons_lt_cons_iff.2 (.inl h2)⟩
   .
    rw[if_neg h2]
    have e:x=y:=UInt8.le_antisymm (UInt8.not_lt.1 h2) (UInt8.not_lt.1 h1)
    subst e
    rcases bl0 a b with ⟨h,h'⟩ | ⟨h,h'⟩ | ⟨h,h'⟩
    . exact .inl ⟨h,List.cons_lt_cons_iff.2 (.inr ⟨rfl,h'⟩)⟩
    . exact .inr (.inl ⟨h,by rw[h']⟩)
    . exact .inr (.inr ⟨h,List.cons_lt_cons_iff.2 (.inr ⟨rfl,h'⟩)⟩)
theorem cmp_neg (a b:List UInt8):Lib.compareBytes a b<0 ↔ a<b:=by
 rcases bl0 a b with ⟨h,h'⟩ | ⟨h,h'⟩ | ⟨h,h'⟩
 . rw[h];simp[h']
 . rw[h,h'];simp
 . rw[h];have:¬a<b:=fun x=>List.lt_irrefl _ (List.lt_trans x h');simp[this]
theorem cj1 (a b:List UInt8):Lib.compareBytes a b=0 ↔ a=b:=by
 rcases bl0 a b with ⟨h,h'⟩ | ⟨h,h'⟩ | ⟨h,h'⟩
 . rw[h];have:¬a=b:=fun x=>List.lt_irrefl _ (x ▸ h');simp[this]
 . rw[h,h'];simp
 . rw[h];have:¬a=b:=fun x=>List.lt_irrefl _ (x ▸ h');simp[this]
theorem bw6 (f:List UInt8) (vb:Value) (ab:Option Addr) (nb cb:Nat) (n:List UInt8) (w:World) :
 Calls Tryz.prog 200 #[.agg #[.string ⟨f.toArray⟩,.slice ab nb cb],.string ⟨n.toArray⟩] w fun e w'=>e=.returned (.int .i64 (Lib.compareBytes f n))/\Bq w w':=by have hC:∀W:World,Calls Tryz.prog 201 #[.string ⟨f.toArray⟩,.string ⟨n.toArray⟩] W fun e w'=>e=.returned (.int .i64 (Lib.compareBytes f n))/\w'=W:=fun W=>Tryz.strings_Compare ⟨f.toArray⟩ ⟨n.toArray⟩ W;have HC:Hid _:=hC;generalize Lib.compareBytes f n=r at *;generalize (⟨f.toArray⟩:ByteArray)=fx at *;generalize (⟨n.toArray⟩:ByteArray)=nx at *;clear hC;go_enter Tryz.func200,Tryz.ntmps200;go_wp2_with fail;refine Calls.mono (HC.out _) ?_;rintro e w2 ⟨rfl,rfl⟩;go_wp2_with fail;go_ret;exact⟨rfl,F6⟩
end Go.Proofs.YtllgglolcgdehaaGreatDoor
