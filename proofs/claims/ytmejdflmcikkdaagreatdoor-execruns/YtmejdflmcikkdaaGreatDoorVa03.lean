/- What the developers' pipeOf does, and more. -/
import Derived.Test.YtmejdflmcikkdaaGreatDoorVAb
import Derived.Test.YtmejdflmcikkdaaGreatDoorVa02
set_option linter.all false
set_option maxRecDepth 100000
set_option maxHeartbeats 64000000
namespace Go.Proofs.YtmejdflmcikkdaaGreatDoor
open Go.RowKit Go.Gs Go.Maps Tryz
variable {G:World->qW->Prop}
variable {ns:List SNode}{p:Int × Int}
theorem P4{B n:Nat}{w:World}:Below B w (w.drewN n):=⟨rfl,rfl,rfl,qA _,fun _ _=>rfl⟩
theorem bE1{i k:Nat}(hi:i<=1000)(hk:k<=1000):WfP ((i:Int),(k:Int)):=by constructor <;> (simp[Lit.wf,IntKind.min,IntKind.max,IntKind.signed,IntKind.bits];omega)
theorem bk0(h:p∈b8 ns):aV1 ns p=(E9 ns p:Int):=by unfold aV1;rw[qF h]
theorem aV3(D r:Nat)(O:qW)(d:RD)(i k q g c:Nat)(n:SNode)(w:World)(h:RunM G w D r O d)(hg:RightG d.M.ns)(hn:d.M.ns[i]?=some n)(hk:(k:Int)<nouts n)(hxl:d.M.pipes.length=(b8 d.M.ns).length)(hq:q=E9 d.M.ns ((i:Int),(k:Int)))
 (hv:d.vX=.slice (some ⟨g,0,none⟩) d.M.pipes.length c) (hc:d.M.pipes.length<=c/\c<=9223372036854775807):
 Calls prog 93 #[.pointer (some ⟨r,0,none⟩),.int .i64 i,.int .i64 k] w fun e w'=>e=.returned (.pointer (some ⟨g,q*4,none⟩))/\Bq w w':=by
 have hi60:i<60:=zJ (gSm hn).1 hg.le60;have hk5:k<60:=by
  have hch:=hg.node n (mGt hn);have:nouts n<=5:=by
   unfold nouts;split
   . rcases N9 (L2 hch).1 with⟨h4 | h4,_⟩|⟨h4,_,h5⟩|⟨h4,_⟩|⟨h4,_⟩ <;> omega
   . split <;> omega
  omega
 obtain⟨r',j',n',hn',hj',_,Ba,hql⟩:=hg.reader hn hk;obtain⟨b,m,hvM,hI⟩:=h.intoAt;have hlook:∀N,(Instr.lookup 69 (.map (some b)) (.agg #[.int .i64 i,.int .i64 k]) false).run prog (w.drewN N)=.ok (.int .i64 (q:Int)) (w.drewN N):=fun N=>by have h1:=J8.look (w:=w.drewN N) (J8.keep hI rfl) (bE1 (i:=i) (k:=k) qO qO);rw[bk0 (hg.every i k n hn hk),<- hq]at h1;exact h1
 have hqx:q<d.M.pipes.length:=by rw[hq,hxl,Ba];exact hql
 obtain⟨c0,c1,c2,c3,c4,c5,c6⟩:=K9 h.box.1;rw[hv]at c2;rw[hvM]at c6;generalize d.M.pipes.length=NX at *;clear h hv hvM hI hq hxl hn hk hg hn' hj' Ba hql c0 c1 c3 c4 c5;go_enter func93,ntmps93;go_wp2_with fail;go_quiet (fail);all_goals go_wp2_with fail
 all_goals go_ret
 all_goals exact⟨rfl,by first|exact Below.refl _ _ | exact P4⟩
end Go.Proofs.YtmejdflmcikkdaaGreatDoor
namespace Go.Proofs.YtmejdflmcikkdaaGreatDoor
open Go.RowKit Go.Gs Tryz
variable {n cap k:Nat}{room m r:Int}{sh:Bool}{p:SPipe}{w:World}{bs:qU}{ao:Option Addr}{xs:List Value}{a:Addr}{e:Ending}
theorem aq6(h:room<0\/1000<room):pck n room sh=3:=by unfold pck;rw[qF h]
theorem bk4(h:¬(room<0\/1000<room))(h2:plim room<(n:Int)):pck n room sh=2:=by unfold pck;rw[qB h,qF h2]
theorem bk5(h:¬(room<0\/1000<room))(h2:¬plim room<(n:Int))(h3:0<n):pck n room true=4:=by unfold pck;rw[qB h,qB h2,qF ⟨rfl,h3⟩]
theorem bk6(h:¬(room<0\/1000<room))(h2:¬plim room<(n:Int))(h3:¬0<n):pck n room true=0:=by unfold pck;rw[qB h,qB h2,qB (fun h=>h3 h.2)]
theorem aK5(h:¬(room<0\/1000<room))(h2:¬plim room<(n:Int)):pck n room false=0:=by unfold pck;rw[qB h,qB h2,qB (fun h=>by cases h.1)]
theorem bk7(ab:Option Addr)(n cap:Nat)(room:Int)(cl sh:Bool)(w:World):
 Calls prog 74 #[.agg #[.slice ab n cap,.int .i64 room,.bool cl,.bool sh]] w fun e w'=>e=.returned (.int .i64 (plim room))/\Bq w w':=by
 by_cases h:room=0
 . subst h;go_enter func74,ntmps74;go_wp2_with fail;go_ret;exact⟨rfl,P6⟩
 . have HP:=qH (show plim room=room by unfold plim;rw[qB h]);go_enter func74,ntmps74;go_wp2_with fail;go_ret;exact⟨by rw[HP.o];rfl,P6⟩
theorem ah7(ab:Option Addr)(n cap:Nat)(room:Int)(cl sh:Bool)(w:World)(hn:n<=9223372036854775807):
 Calls prog 32 #[.agg #[.slice ab n cap,.int .i64 room,.bool cl,.bool sh]] w fun e w'=>e=.returned (.int .i64 (pck n room sh))/\Bq w w':=by
 by_cases hr:room<0\/1000<room
 .
  have HP:Hid (pck n room sh=3):=aq6 hr;by_cases h0:room<0
  . go_enter func32,ntmps32;go_wp2_with fail;go_ret;exact⟨by rw[HP.o];rfl,P6⟩
  . have h1:1000<room:=qO;go_enter func32,ntmps32;go_wp2_with fail;go_ret;exact⟨by rw[HP.o];rfl,P6⟩
 .
  have h0:¬room<0:=qO;have h1:¬1000<room:=qO;have HO:Hid _:=fun(W:World)=>bk7 ab n cap room cl sh W;obtain⟨L,hL⟩:=qE (plim room);have HL:=qH hL;obtain⟨W,hW⟩:=qE (w.alloc (.cells #[.slice ab n cap,.int .i64 room,.bool cl,.bool sh] 61));have HW:=qH (show Bq w W by rw[hW];exact P6);have c0:W.cell? ⟨w.heap.size,0,none⟩=some (.slice ab n cap):=by rw[hW,qY _ _ _ _ _ _ (qJ w _)];rfl
  have c1:W.cell? ⟨w.heap.size,1,none⟩=some (.int .i64 room):=by rw[hW,qY _ _ _ _ _ _ (qJ w _)];rfl
  have c2:W.cell? ⟨w.heap.size,2,none⟩=some (.bool cl):=by rw[hW,qY _ _ _ _ _ _ (qJ w _)];rfl
  have c3:W.cell? ⟨w.heap.size,3,none⟩=some (.bool sh):=by rw[hW,qY _ _ _ _ _ _ (qJ w _)];rfl
  have k0:=fun d os=>cell_regrown c0 d os;have k1:=fun d os=>cell_regrown c1 d os;have k2:=fun d os=>cell_regrown c2 d os;have k3:=fun d os=>cell_regrown c3 d os;have cF:∀d os,Calls prog 74 #[.agg #[.slice ab n cap,.int .i64 room,.bool cl,.bool sh]] (Go.Sort.grow (redrawn W d) os) fun e w''=>e=.returned (.int .i64 L)/\∃p:Regrown,w''=Go.Sort.grow (redrawn W p.d) p.os:=fun d os=>Calls.regrown_of (by rw[hL];exact HO.o _);rw[<- hL]at HO;go_enter func32,ntmps32;go_upto_region 3 with fail;rw[<- hW];clear hW hL HO c0 c1 c2 c3;refine wp_region_quiet_below qQ qQ ?_;repeat (first|go_big_quiet_step (exact cF _ _) | quiet_step (exact cF _ _))
  refine wpQuiet_nil ?_;intro _ hw';obtain⟨⟨dq,osq⟩,Av⟩:=hw';subst Av;have q0:=k0 dq osq;have q3:=k3 dq osq;have HB3:Hid (Bq w (Go.Sort.grow (redrawn W dq) osq)):=HW.o.trans ((below_regrown W dq osq).mono HW.o.size);clear cF k0 k1 k2 k3 HW;generalize (Go.Sort.grow (redrawn W dq) osq)=w3 at *;by_cases h2:L<(n:Int)
  . have HP:Hid (pck n room sh=2):=bk4 hr (by rw[<- HL.o];exact h2);clear hr;go_wp2_with fail;go_ret;exact⟨by rw[HP.o];rfl,HB3.o⟩
  .
   have h2':¬plim room<(n:Int):=by rw[<- HL.o];exact h2
   cases sh with
   | false=>have HP:Hid (pck n room false=0):=aK5 hr h2';clear hr h2';go_wp2_with fail;go_ret;exact⟨by rw[HP.o];rfl,HB3.o⟩
   | true=>
    by_cases h3:0<n
    . have HP:Hid (pck n room true=4):=bk5 hr h2' h3;clear hr h2';go_wp2_with fail;go_ret;exact⟨by rw[HP.o];rfl,HB3.o⟩
    . have HP:Hid (pck n room true=0):=bk6 hr h2' h3;clear hr h2';go_wp2_with fail;go_ret;exact⟨by rw[HP.o];rfl,HB3.o⟩
def pckO(n:Nat)(room:Int)(cl sh:Bool):Int:=if pck n room sh≠0 then pck n room sh else if cl=true then 7 else 0
theorem bc8(ab:Option Addr)(n cap:Nat)(room:Int)(cl sh:Bool)(w:World)(hn:n<=9223372036854775807):
 Calls prog 121 #[.agg #[.slice ab n cap,.int .i64 room,.bool cl,.bool sh]] w fun e w'=>e=.returned (.int .i64 (pckO n room cl sh))/\Bq w w':=by
 have HO:Hid _:=fun(W:World)=>ah7 ab n cap room cl sh W hn;obtain⟨L,hL⟩:=qE (pck n room sh);have HP:=qH (show pckO n room cl sh=if L≠0 then L else if cl=true then 7 else 0 by rw[hL];rfl);rw[<- hL]at HO;clear hL;go_enter func121,ntmps121;go_wp2_with fail;refine (HO.o _).mono ?_;rintro e w1⟨rfl,hb1⟩;have hx:=cg3 hb1;have q2:w1.cell? ⟨w.heap.size,2,none⟩=some (.bool cl):=qR hx rfl;have HB:Hid (Bq w w1):=P6.trans (hb1.mono P6.size);clear hb1 hx HO;by_cases h0:L=0
 .
  subst h0
  cases cl with
  | true=>go_wp2_with fail;go_ret;exact⟨by rw[HP.o];rfl,HB.o⟩
  | false=>go_wp2_with fail;go_ret;exact⟨by rw[HP.o];rfl,HB.o⟩
 . have HP2:=qH (show pckO n room cl sh=L by rw[HP.o,qF h0]);clear HP;go_wp2_with fail;go_ret;exact⟨by rw[HP2.o];rfl,HB.o⟩
theorem bS8(ab:Option Addr)(n cap:Nat)(room:Int)(cl sh:Bool)(w:World):
 Calls prog 96 #[.agg #[.slice ab n cap,.int .i64 room,.bool cl,.bool sh]] w fun e w'=>e=.returned (.bool (cl && decide (n=0)))/\Bq w w':=by
 cases cl with
 | false=>go_enter func96,ntmps96;go_wp2_with fail;go_ret;exact⟨rfl,P6⟩
 | true=>
  by_cases h0:n=0
  . subst h0;go_enter func96,ntmps96;go_wp2_with fail;go_ret;exact⟨rfl,P6⟩
  . have HD:Hid (decide (n=0)=false):=qG h0;go_enter func96,ntmps96;go_wp2_with fail;go_ret;refine⟨?_,P6⟩;show Ending.returned (.bool ((n:Int)==0))=_;rw[HD.o,show ((n:Int)==0)=false by simpa using h0];rfl
theorem bS9(h:pck 0 room false≠0):pnew room=(Y3,pck 0 room false):=by
 by_cases hr:room<0\/1000<room
 . rw[aq6 hr];unfold pnew;rw[qF hr]
 . refine absurd (aK5 hr ?_) h;unfold plim;split <;> omega
theorem ca6(h:pck 0 room false=0):pnew room=(⟨[],room,false,false⟩,0):=by have:=aI4 h;unfold pnew;rw[qB qO]
theorem bH7(h:pchk p≠0):pshut p=(Y3,pchk p):=by unfold pshut;rw[qF h]
theorem bk8(h:pchk p=0):pshut p=(⟨[],p.room,p.closed,true⟩,0):=by unfold pshut;rw[qB (fun e=>e h)]
theorem bE2(p:SPipe):pckO p.b.length p.room p.closed p.shut=if pchk p≠0 then pchk p else if p.closed=true then 7 else 0:=rfl
theorem bc9(h:pckO p.b.length p.room p.closed p.shut=0):pchk p=0/\p.closed=false:=by
 rw[bE2]at h;by_cases h1:pchk p=0
 . by_cases h2:p.closed=true
   . simp[h1,h2]at h
   . exact⟨h1,by simpa using h2⟩
 . simp[h1]at h
theorem ce7(room:Int)(w:World):
 Calls prog 25 #[.int .i64 room] w fun e w'=>e=.returned (.tuple #[M8 (pnew room).1 none 0,.int .i64 (pnew room).2])/\Bq w w':=by
 have HO:Hid _:=fun(W:World)=>ah7 none 0 0 room false false W qO;have HB:Hid _:=fun h=>bS9 (room:=room) h;have HK:Hid _:=fun h=>ca6 (room:=room) h;obtain⟨L,hL⟩:=qE (pck 0 room false);rw[<- hL]at HO HB HK;clear hL;go_enter func25,ntmps25;go_wp2_with fail;refine (HO.o _).mono ?_;rintro e w1⟨rfl,hb1⟩;obtain⟨x1,x2⟩:=aB4 hb1;obtain⟨c0,c1,c2,c3⟩:=C9 x1;obtain⟨d0,d1,d2,d3⟩:=C9 x2;obtain⟨f0,f1,f2,f3⟩:=ab5 x1;have HB1:Hid (Bq w w1):=Q2.trans (hb1.mono Q2.size);clear hb1 HO x1 x2;by_cases h0:L=0
 .
  subst h0;go_wp2_with fail;(try simp only[Exit.inBlock,Exit.then])
  refine qx (v:=.tuple #[.agg #[.slice none 0 0,.int .i64 room,.bool false,.bool false],.int .i64 0]) ?_ rfl ⟨?_,?_⟩
  . rw[results_cell_tmp rfl];go_simp
  . rw[HK.o trivial];rfl
  . exact aD8 HB1.o (qA _) _ _ _ _
 .
  go_wp2_with fail;(try simp only[Exit.inBlock,Exit.then])
  refine qx (v:=.tuple #[.agg #[.slice none 0 0,.int .i64 0,.bool false,.bool false],.int .i64 L]) ?_ rfl ⟨?_,?_⟩
  . rw[results_cell_tmp rfl];go_simp
  . rw[HB.o h0];rfl
  . exact aD8 HB1.o (qA _) _ _ _ _
theorem ca7(ab:Option Addr)(cap:Nat)(p:SPipe)(w:World)(hn:p.b.length<=9223372036854775807):
 Calls prog 160 #[M8 p ab cap] w fun e w'=>e=.returned (.tuple #[M8 (pshut p).1 none 0,.int .i64 (pshut p).2])/\Bq w w':=by
 obtain⟨bs,room,cl,sh⟩:=p;have HO:Hid _:=fun(W:World)=>ah7 ab bs.length cap room cl sh W hn;have HB:Hid _:=fun h=>bH7 (p:=⟨bs,room,cl,sh⟩) h;have HK:Hid _:=fun h=>bk8 (p:=⟨bs,room,cl,sh⟩) h;unfold pchk at HB HK;unfold M8;generalize hZ:pshut ⟨bs,room,cl,sh⟩=Z at *;simp only at HB HK hn ⊢;obtain⟨L,hL⟩:=qE (pck bs.length room sh);obtain⟨N,hN⟩:=qE bs.length;rw[<- hL]at HO HB HK;rw[<- hN]at HO hn ⊢;clear hL hN hZ;go_enter func160,ntmps160;go_wp2_with fail;refine (HO.o _).mono ?_;rintro e w1⟨rfl,hb1⟩;obtain⟨x1,x2⟩:=aB4 hb1;obtain⟨c0,c1,c2,c3⟩:=C9 x1;obtain⟨d0,d1,d2,d3⟩:=C9 x2;obtain⟨f0,f1,f2,f3⟩:=ab5 x1;obtain⟨g0,g1,g2,g3⟩:=ab5 x2;have HB1:Hid (Bq w w1):=Q2.trans (hb1.mono Q2.size);clear hb1 HO x1 x2;by_cases h0:L=0
 .
  obtain rfl:=HK.o h0;clear HK HB;subst h0;go_wp2_with fail;(try simp only[Exit.inBlock,Exit.then])
  refine qx (v:=.tuple #[.agg #[.slice none 0 0,.int .i64 room,.bool cl,.bool true],.int .i64 0]) ?_ rfl ⟨rfl,?_⟩
  . rw[results_cell_tmp rfl];go_simp
  . repeat (first|refine Below.setCell ?_ (by simp) _ | exact HB1.o)
 .
  obtain rfl:=HB.o h0;clear HK HB;go_wp2_with fail;(try simp only[Exit.inBlock,Exit.then])
  refine qx (v:=.tuple #[.agg #[.slice none 0 0,.int .i64 0,.bool false,.bool false],.int .i64 L]) ?_ rfl ⟨rfl,?_⟩
  . rw[results_cell_tmp rfl];go_simp
  . repeat (first|refine Below.setCell ?_ (by simp) _ | exact HB1.o)
theorem bH8(h:pchk p≠0):pread p m=(Y3,[],pchk p):=by unfold pread;rw[qF h]
theorem bk9(h:pchk p=0)(h2:m<0\/4000<m):pread p m=(Y3,[],3):=by unfold pread;rw[qB (fun e=>e h),qF h2]
theorem bT0(h:pchk p=0)(h2:¬(m<0\/4000<m)):pread p m=(⟨p.b.drop (min m.toNat p.b.length),p.room,p.closed,p.shut⟩,p.b.take (min m.toNat p.b.length),0):=by unfold pread;rw[qB (fun e=>e h),qB h2]
theorem bl0{b off:Nat}(h:Reads w (.slice (some ⟨b,off,none⟩) n cap) n (bs.map U))(hk:k<=n):Reads w (.slice (some ⟨b,off+k,none⟩) (n-k) (cap-k)) (n-k) ((bs.drop k).map U):=by obtain⟨hl,ao,cap',e,h3,h4,h5⟩:=h;injection e with e1 e2 e3;subst e1 e3;rw[qS]at hl;refine⟨by simp;omega,_,_,rfl,qO,qO,fun hn=>?_⟩;obtain⟨b',off',e,hc⟩:=h5 qO;injection e with e;injection e with e1 e2;subst e1 e2;refine⟨b,off+k,rfl,fun j u hu=>?_⟩;rw[List.map_drop,xu]at hu;have:=hc _ _ hu;rwa [<- zK]at this
theorem bl1(h:Reads w (.slice ao n cap) n (bs.map U))(hk:k<=n):Reads w (.slice ao k cap) k ((bs.take k).map U):=by
 obtain⟨hl,ao',cap',e,h3,h4,h5⟩:=h;injection e with e1 e2 e3;subst e1 e3;rw[qS]at hl;refine⟨by simp;omega,_,_,rfl,qO,qO,fun hn=>?_⟩;obtain⟨b',off',e,hc⟩:=h5 qO;refine⟨b',off',e,fun j u hu=>?_⟩;rw[List.map_take,xg]at hu;split at hu
 . exact hc _ _ hu
 . cases hu
theorem bH9(h:Reads w (.slice none n cap) n xs)(hz:cap=0):n=0/\cap=0:=by obtain⟨_,_,h1⟩:=t8 h;exact⟨qO,hz⟩
theorem aE4(hn:n=0)(hl:bs.length=0)(hc:n<=cap)(hm:cap<=9223372036854775807):Reads w (.slice ao n cap) n (bs.map U):=
 ⟨by rw[qS];omega,ao,cap,rfl,hc,by unfold maxLen;omega,fun h=>absurd hn h⟩
theorem aK6(h:Reads w (.slice (some a) n cap) n (bs.map U))(hk:k<=n):Reads w (.slice (some (a.add k)) (n-k) (cap-k)) (n-k) ((bs.drop k).map U):=by
 have h0:=h;obtain⟨hl,ao,cap',e,h3,h4,h5⟩:=h;injection e with e1 e2 e3;subst e3;rw[qS]at hl;by_cases hn:n-k=0
 . exact⟨by simp;omega,_,_,rfl,qO,qO,fun h=>absurd hn h⟩
 . obtain⟨b,off,e,_⟩:=h5 qO;rw[e]at e1;injection e1 with e1;subst e1;rw[addP];exact bl0 h0 hk
def bE3(w:World)(z:SPipe × qU × Int)(e:Ending)(w':World):Prop:=
 ∃ar cr ag cg,e=.returned (.tuple #[M8 z.1 ar cr,.slice ag z.2.1.length cg,.int .i64 z.2.2])/\PB w w' ar cr z.1.b/\PB w w' ag cg z.2.1/\Bq w w'
theorem am7{w':World}(he:e=.returned (.tuple #[.agg #[.slice none 0 0,.int .i64 0,.bool false,.bool false],.slice none 0 0,.int .i64 r]))(hb:Bq w w'):bE3 w (Y3,[],r) e w':=
 ⟨none,0,none,0,he,PB.none _ _,PB.none _ _,hb⟩
theorem ca8(ab:Option Addr)(cap:Nat)(p:SPipe)(m:Int)(w:World)(hr:Reads w (.slice ab p.b.length cap) p.b.length (p.b.map U))(hz:ab=none->cap=0):
 Calls prog 97 #[M8 p ab cap,.int .i64 m] w fun e w'=>bE3 w (pread p m) e w':=by
 obtain⟨bs,room,cl,sh⟩:=p;have hn:=(t8 hr).1;have HR:=qH hr;have HO:Hid _:=fun(W:World)=>ah7 ab bs.length cap room cl sh W hn;have HB:Hid _:=fun h=>bH8 (p:=⟨bs,room,cl,sh⟩) (m:=m) h;have HG:Hid _:=fun h=>bk9 (p:=⟨bs,room,cl,sh⟩) (m:=m) h;have HK:Hid _:=fun h=>bT0 (p:=⟨bs,room,cl,sh⟩) (m:=m) h
 have HL:Hid (pck bs.length room sh=0->bs.length<=100000):=(show pck bs.length room sh=0->bs.length<=100000 from fun h=>by
  obtain⟨_,g2,g3,_⟩:=aI4 h
  have g4:plim room<=40000:=ae1 g2
  omega)
 unfold pchk at HB HG HK;unfold M8;generalize hZ:pread ⟨bs,room,cl,sh⟩ m=Z at *;simp only at HB HG HK hn ⊢;obtain⟨L,hL⟩:=qE (pck bs.length room sh);rw[<- hL]at HO HB HG HK HL;obtain⟨N,hN⟩:=qE bs.length;have HN:=qH hN;rw[<- hN]at HO HL HR hn ⊢;clear hL hZ hr hN;go_enter func97,ntmps97;go_wp2_with fail;refine (HO.o _).mono ?_;rintro e w1⟨rfl,hb1⟩;obtain⟨x1,x2⟩:=aB4 hb1;have X1:Hid _:=x1;have X2:Hid _:=x2;obtain⟨c0,c1,c2,c3⟩:=C9 x1;have HB1:Hid (Bq w w1):=Q2.trans (hb1.mono Q2.size);have hs:w.heap.size+1<w1.heap.size:=by have:=hb1.size;simp at this;omega
 clear hb1 HO x1 x2;by_cases h0:L=0
 .
  have hl:=HL.o h0;by_cases hm:m<0\/4000<m
  .
   obtain rfl:=HG.o h0 hm;obtain⟨d0,d1,d2,d3⟩:=C9 X2.o;obtain⟨g0,g1,g2,g3⟩:=ab5 X2.o;clear HK HB HL HG X1 X2;subst h0;by_cases hm0:m<0
   . clear hm;go_wp2_with fail;(try simp only[Exit.inBlock,Exit.then])
     refine qx (v:=.tuple #[.agg #[.slice none 0 0,.int .i64 0,.bool false,.bool false],.slice none 0 0,.int .i64 3]) ?_ rfl (am7 rfl ?_)
     . rw[j9 rfl];go_simp
     . repeat (first|refine Below.setCell ?_ (by simp) _ | exact HB1.o)
   . have hm1:4000<m:=qO;clear hm;go_wp2_with fail;(try simp only[Exit.inBlock,Exit.then])
     refine qx (v:=.tuple #[.agg #[.slice none 0 0,.int .i64 0,.bool false,.bool false],.slice none 0 0,.int .i64 3]) ?_ rfl (am7 rfl ?_)
     . rw[j9 rfl];go_simp
     . repeat (first|refine Below.setCell ?_ (by simp) _ | exact HB1.o)
  .
   have HZ:Hid _:=HK.o h0 hm;clear HK HB HL HG;subst h0;have hm0:¬m<0:=qO;have hm1:¬4000<m:=qO;rw[<- HN.o]at HZ;have hcc:=(t8 HR.o).2;obtain⟨K,hK⟩:=qE (min m.toNat N);have Ur:(if (N:Int)<m then (N:Int) else m)=(K:Int):=by split <;> omega
   have Yb:min m (N:Int)=(K:Int):=qO;have hkN:K<=N:=qO;have HZ2:=qH (show Z=(⟨bs.drop K,room,cl,sh⟩,bs.take K,0) by rw[HZ.o,hK]);have hl1:(bs.take K).length=K:=by rw[qX,<- HN.o];omega
   have hl2:(bs.drop K).length=N-K:=by rw[qy,<- HN.o]
   have hC1:=bD4 ab cap (bs.take K) w1 (by rw[hl1];exact bl1 (Reads.below HR.o HB1.o) hkN) qO;rw[hl1]at hC1;have HC1:Hid _:=hC1;have HL1:=qH hl1;have HL2:=qH hl2;have hC2:=fun(a2:Option Addr)(c2:Nat)(W:World)(hW:Reads W (.slice a2 (N-K) c2) (N-K) ((bs.drop K).map U))=>bD4 a2 c2 (bs.drop K) W (by rw[hl2];exact hW) qO;rw[hl2]at hC2;have HC2:Hid _:=hC2;clear hm hK HZ hl1 hl2 hC1 hC2;have Bj:(ab=none/\N=0/\cap=0/\K=0)\/(∃a,ab=some a/\cap=K/\N=K)\/∃a,ab=some a/\¬cap=K:=by
    cases ab with
    | none=>have:=bH9 HR.o (hz rfl);exact .inl ⟨rfl,qO,qO,qO⟩
    | some a=>
     by_cases hc:cap=K
     . exact .inr (.inl ⟨a,rfl,hc,qO⟩)
     . exact .inr (.inr ⟨a,rfl,hc⟩)
   rcases Bj with⟨rfl,rfl,rfl,rfl⟩|⟨a,rfl,rfl,rfl⟩|⟨a,rfl,hcap⟩
   all_goals
    have HC3:Hid _:=fun(W:World)(hW:Bq w W)=>by
     first
      | exact HC2.o none 0 W (aE4 rfl (by rw[HL2.o]) qO qO)
      | exact HC2.o (some a) 0 W (aE4 qO (by rw[HL2.o];omega) qO qO)
      | exact HC2.o (some (a.add K)) (cap-K) W (aK6 (Reads.below HR.o hW) hkN)
    (try rw[xt]at HC3)
    try have hmin0:(if (0:Int)<m then (0:Int) else m)=0:=Ur
    try have hmin1:min m (0:Int)=0:=Yb
    clear HC2 HR;go_wp2_with fail;refine qD HC1.o ?_;rintro e w2⟨ag,cg,rfl,hpg,hb2⟩;have X1':Hid _:=(hb2.block _ qO).trans X1.o;have X2':Hid _:=(hb2.block _ qO).trans X2.o;clear c0 c1 c2 c3;obtain⟨c0,c1,c2,c3⟩:=C9 X1'.o;have HPG:Hid _:=hpg;have hs2:=hb2.size;have HB2:=qH hb2;clear hb2 hpg HC1 X1 X2;go_wp2_with fail;refine qD (HC3.o w2 (HB1.o.trans (HB2.o.mono HB1.o.size))) ?_;rintro e w3⟨ar,cr,rfl,hpr,hb3⟩;clear c0 c1 c2 c3;obtain⟨c0,c1,c2,c3⟩:=C9 ((hb3.block _ qO).trans X1'.o);obtain⟨d0,d1,d2,d3⟩:=C9 ((hb3.block _ qO).trans X2'.o);obtain⟨f0,f1,f2,f3⟩:=ab5 ((hb3.block _ qO).trans X1'.o);obtain⟨g0,g1,g2,g3⟩:=ab5 ((hb3.block _ qO).trans X2'.o);have HPR:Hid _:=hpr;have HPG3:Hid _:=(show PB _ _ _ _ _ from ⟨Reads.below HPG.o.1 hb3,HPG.o.2⟩);have HB3:Hid (Bq w w3):=HB1.o.trans ((HB2.o.trans (hb3.mono hs2)).mono HB1.o.size);clear hb3 hpr HC3 X1' X2' HPG;go_wp2_with fail;(try simp only[Exit.inBlock,Exit.then])
    first
     | refine qx (v:=.tuple #[.agg #[.slice ar (N-K) cr,.int .i64 room,.bool cl,.bool sh],.slice ag K cg,.int .i64 0]) (by rw[j9 rfl];go_simp) rfl ?_
     | refine qx (v:=.tuple #[.agg #[.slice ar 0 cr,.int .i64 room,.bool cl,.bool sh],.slice ag N cg,.int .i64 0]) (by rw[j9 rfl];go_simp) rfl ?_
     | refine qx (v:=.tuple #[.agg #[.slice ar 0 cr,.int .i64 room,.bool cl,.bool sh],.slice ag 0 cg,.int .i64 0]) (by rw[j9 rfl];go_simp) rfl ?_
    rw[HZ2.o];refine⟨ar,cr,ag,cg,?_,?_,?_,?_⟩
    . unfold M8;simp only;rw[HL1.o,HL2.o];(try rw[xt])
    . refine PB.fromP (w1:=w2) ?_ (by have:=HB1.o.size;omega);repeat (first|refine PB.setP ?_ qO _ | exact HPR.o)
    . refine PB.fromP (w1:=w1) ?_ HB1.o.size;repeat (first|refine PB.setP ?_ qO _ | exact HPG3.o)
    . repeat (first|refine Below.setCell ?_ (by simp) _ | exact HB3.o)
 .
  obtain rfl:=HB.o h0;obtain⟨d0,d1,d2,d3⟩:=C9 X2.o;obtain⟨g0,g1,g2,g3⟩:=ab5 X2.o;clear HK HB HL HG X1 X2;go_wp2_with fail;(try simp only[Exit.inBlock,Exit.then])
  refine qx (v:=.tuple #[.agg #[.slice none 0 0,.int .i64 0,.bool false,.bool false],.slice none 0 0,.int .i64 L]) ?_ rfl (am7 rfl ?_)
  . rw[j9 rfl];go_simp
  . repeat (first|refine Below.setCell ?_ (by simp) _ | exact HB1.o)
end Go.Proofs.YtmejdflmcikkdaaGreatDoor
