/- What the developers' Read does, for every pipe, and more. -/
import Derived.Test.YtllgglolcgdehaaGreatDoorSAb
import Derived.Laws.CopyOwn
import Derived.OwnWalk
import Derived.Test.YtllgglolcgdehaaGreatDoorSa18
set_option linter.all false
set_option maxRecDepth 100000
set_option maxHeartbeats 16000000
namespace Go.Proofs.YtllgglolcgdehaaGreatDoor
open Go.RowKit Go.Gs Tryz
theorem bS8{w:World}{n cap:Nat}{xs:List Value}(h:Reads w (.slice none n cap) n xs)(hz:cap=0):n=0/\cap=0:=by obtain⟨_,_,h1⟩:=F6 h;exact⟨by omega,hz⟩
theorem aH8{w:World}{ao:Option Addr}{n cap:Nat}{bs:List UInt8}(hn:n=0)(hl:bs.length=0)(hc:n<=cap)(hm:cap<=9223372036854775807):Reads w (.slice ao n cap) n (bs.map U):=
 ⟨by rw[qM];omega,ao,cap,rfl,hc,by unfold maxLen;omega,fun h=>absurd hn h⟩
theorem aQ5{w:World}{a:Addr}{n cap k:Nat}{bs:List UInt8}(h:Reads w (.slice (some a) n cap) n (bs.map U))(hk:k<=n):Reads w (.slice (some (a.add k)) (n-k) (cap-k)) (n-k) ((bs.drop k).map U):=by
 have h0:=h;obtain⟨hl,ao,cap',e,h3,h4,h5⟩:=h;injection e with e1 e2 e3;subst e3;rw[qM]at hl;by_cases hn:n-k=0
 . exact⟨by simp;omega,_,_,rfl,by omega,by omega,fun h=>absurd hn h⟩
 . obtain⟨b,off,e,_⟩:=h5 (by omega);rw[e]at e1;injection e1 with e1;subst e1;rw[addP];exact br6 h0 hk
def bJ3(w:World)(z:SPipe × List UInt8 × Int)(e:Ending)(w':World):Prop:=
 ∃ar cr ag cg,e=.returned (.tuple #[W9 z.1 ar cr,.slice ag z.2.1.length cg,.int .i64 z.2.2])/\PB w w' ar cr z.1.b/\PB w w' ag cg z.2.1/\Bq w w'
theorem ap4{w w':World}{e:Ending}{r:Int}(he:e=.returned (.tuple #[.agg #[.slice none 0 0,.int .i64 0,.bool false,.bool false],.slice none 0 0,.int .i64 r]))(hb:Bq w w'):bJ3 w (ab0,[],r) e w':=
 ⟨none,0,none,0,he,PB.none _ _,PB.none _ _,hb⟩
theorem cm4(ab:Option Addr)(cap:Nat)(p:SPipe)(m:Int)(w:World)(hr:Reads w (.slice ab p.b.length cap) p.b.length (p.b.map U))(hz:ab=none->cap=0):
 Calls prog 169 #[W9 p ab cap,.int .i64 m] w fun e w'=>bJ3 w (pread p m) e w':=by
 obtain⟨bs,room,cl,sh⟩:=p;have hn:=(F6 hr).1;have HR:=qH hr;have HO:Hid _:=fun(W:World)=>ai7 ab bs.length cap room cl sh W hn;have HB:Hid _:=fun h=>bS7 (p:=⟨bs,room,cl,sh⟩) (m:=m) h;have HG:Hid _:=fun h=>br5 (p:=⟨bs,room,cl,sh⟩) (m:=m) h;have HK:Hid _:=fun h=>cd5 (p:=⟨bs,room,cl,sh⟩) (m:=m) h
 have HL:Hid (pck bs.length room sh=0->bs.length<=100000):=(show pck bs.length room sh=0->bs.length<=100000 from fun h=>by
  obtain⟨_,g2,g3,_⟩:=bg5 h
  have g4:plim room<=40000:=aK2 g2
  omega)
 unfold pchk at HB HG HK;unfold W9;generalize hZ:pread ⟨bs,room,cl,sh⟩ m=Z at *;simp only at HB HG HK hn ⊢;obtain⟨L,hL⟩:=qE (pck bs.length room sh);rw[<- hL]at HO HB HG HK HL;obtain⟨N,hN⟩:=qE bs.length;have HN:=qH hN;rw[<- hN]at HO HL HR hn ⊢;clear hL hZ hr hN;go_enter Tryz.func169,Tryz.ntmps169;go_wp2_with fail;refine (HO.out _).mono ?_;rintro e w1⟨rfl,hb1⟩;obtain⟨x1,x2⟩:=bg8 hb1;have X1:Hid _:=x1;have X2:Hid _:=x2;obtain⟨c0,c1,c2,c3⟩:=E5 x1;have HB1:Hid (Bq w w1):=ao6.trans (hb1.mono ao6.size);have hs:w.heap.size+1<w1.heap.size:=by have:=hb1.size;simp at this;omega
 clear hb1 HO x1 x2;by_cases h0:L=0
 .
  have hl:=HL.out h0;by_cases hm:m<0\/4000<m
  .
   obtain rfl:=HG.out h0 hm;obtain⟨d0,d1,d2,d3⟩:=E5 X2.out;obtain⟨g0,g1,g2,g3⟩:=ae6 X2.out;clear HK HB HL HG X1 X2;subst h0;by_cases hm0:m<0
   . clear hm;go_wp2_with fail;(try simp only[Exit.inBlock,Exit.then])
     refine xA (v:=.tuple #[.agg #[.slice none 0 0,.int .i64 0,.bool false,.bool false],.slice none 0 0,.int .i64 3]) ?_ rfl (ap4 rfl ?_)
     . rw[o7 rfl];go_simp
     . repeat (first|refine xQ ?_ (by simp) _ | exact HB1.out)
   .
    have hm1:4000<m:=by omega
    clear hm;go_wp2_with fail;(try simp only[Exit.inBlock,Exit.then])
    refine xA (v:=.tuple #[.agg #[.slice none 0 0,.int .i64 0,.bool false,.bool false],.slice none 0 0,.int .i64 3]) ?_ rfl (ap4 rfl ?_)
    . rw[o7 rfl];go_simp
    . repeat (first|refine xQ ?_ (by simp) _ | exact HB1.out)
  .
   have HZ:Hid _:=HK.out h0 hm;clear HK HB HL HG;subst h0;have hm0:¬m<0:=by omega
   have hm1:¬4000<m:=by omega
   rw[<- HN.out]at HZ;have hcc:=(F6 HR.out).2;obtain⟨K,hK⟩:=qE (min m.toNat N);have Sm:(if (N:Int)<m then (N:Int) else m)=(K:Int):=by split <;> omega
   have hminb:min m (N:Int)=(K:Int):=by omega
   have hkN:K<=N:=by omega
   have HZ2:=qH (show Z=(⟨bs.drop K,room,cl,sh⟩,bs.take K,0) by rw[HZ.out,hK]);have hl1:(bs.take K).length=K:=by rw[qL,<- HN.out];omega
   have hl2:(bs.drop K).length=N-K:=by rw[qo,<- HN.out]
   have hC1:=bJ1 ab cap (bs.take K) w1 (by rw[hl1];exact br7 (Reads.below HR.out HB1.out) hkN) (by omega);rw[hl1]at hC1;have HC1:Hid _:=hC1;have HL1:=qH hl1;have HL2:=qH hl2;have hC2:=fun(a2:Option Addr)(c2:Nat)(W:World)(hW:Reads W (.slice a2 (N-K) c2) (N-K) ((bs.drop K).map U))=>bJ1 a2 c2 (bs.drop K) W (by rw[hl2];exact hW) (by omega);rw[hl2]at hC2;have HC2:Hid _:=hC2;clear hm hK HZ hl1 hl2 hC1 hC2;have Bo:(ab=none/\N=0/\cap=0/\K=0)\/(∃a,ab=some a/\cap=K/\N=K)\/∃a,ab=some a/\¬cap=K:=by
    cases ab with
    | none=>have:=bS8 HR.out (hz rfl);exact .inl ⟨rfl,by omega,by omega,by omega⟩
    | some a=>
     by_cases hc:cap=K
     . exact .inr (.inl ⟨a,rfl,hc,by omega⟩)
     . exact .inr (.inr ⟨a,rfl,hc⟩)
   rcases Bo with⟨rfl,rfl,rfl,rfl⟩|⟨a,rfl,rfl,rfl⟩|⟨a,rfl,hcap⟩
   all_goals
    have HC3:Hid _:=fun(W:World)(hW:Bq w W)=>by
     first
      | exact HC2.out none 0 W (aH8 rfl (by rw[HL2.out]) (by omega) (by omega))
      | exact HC2.out (some a) 0 W (aH8 (by omega) (by rw[HL2.out];omega) (by omega) (by omega))
      | exact HC2.out (some (a.add K)) (cap-K) W (aQ5 (Reads.below HR.out hW) hkN)
    (try rw[zE]at HC3)
    try have hmin0:(if (0:Int)<m then (0:Int) else m)=0:=Sm
    try have hmin1:min m (0:Int)=0:=hminb
    clear HC2 HR;go_wp2_with fail;refine qD HC1.out ?_;rintro e w2⟨ag,cg,rfl,hpg,hb2⟩;have X1':Hid _:=(hb2.block _ (by omega)).trans X1.out;have X2':Hid _:=(hb2.block _ (by omega)).trans X2.out;clear c0 c1 c2 c3;obtain⟨c0,c1,c2,c3⟩:=E5 X1'.out;have HPG:Hid _:=hpg;have hs2:=hb2.size;have HB2:=qH hb2;clear hb2 hpg HC1 X1 X2;go_wp2_with fail;refine qD (HC3.out w2 (HB1.out.trans (HB2.out.mono HB1.out.size))) ?_;rintro e w3⟨ar,cr,rfl,hpr,hb3⟩;clear c0 c1 c2 c3;obtain⟨c0,c1,c2,c3⟩:=E5 ((hb3.block _ (by omega)).trans X1'.out);obtain⟨d0,d1,d2,d3⟩:=E5 ((hb3.block _ (by omega)).trans X2'.out);obtain⟨f0,f1,f2,f3⟩:=ae6 ((hb3.block _ (by omega)).trans X1'.out);obtain⟨g0,g1,g2,g3⟩:=ae6 ((hb3.block _ (by omega)).trans X2'.out);have HPR:Hid _:=hpr;have HPG3:Hid _:=(show PB _ _ _ _ _ from ⟨Reads.below HPG.out.1 hb3,HPG.out.2⟩)
    have HB3:Hid (Bq w w3):=HB1.out.trans ((HB2.out.trans (hb3.mono hs2)).mono HB1.out.size);clear hb3 hpr HC3 X1' X2' HPG;go_wp2_with fail;(try simp only[Exit.inBlock,Exit.then])
    first
     | refine xA (v:=.tuple #[.agg #[.slice ar (N-K) cr,.int .i64 room,.bool cl,.bool sh],.slice ag K cg,.int .i64 0]) (by rw[o7 rfl];go_simp) rfl ?_
     | refine xA (v:=.tuple #[.agg #[.slice ar 0 cr,.int .i64 room,.bool cl,.bool sh],.slice ag N cg,.int .i64 0]) (by rw[o7 rfl];go_simp) rfl ?_
     | refine xA (v:=.tuple #[.agg #[.slice ar 0 cr,.int .i64 room,.bool cl,.bool sh],.slice ag 0 cg,.int .i64 0]) (by rw[o7 rfl];go_simp) rfl ?_
    rw[HZ2.out];refine⟨ar,cr,ag,cg,?_,?_,?_,?_⟩
    . unfold W9;simp only;rw[HL1.out,HL2.out];(try rw[zE])
    . refine PB.fromP (w1:=w2) ?_ (by have:=HB1.out.size;omega);repeat (first|refine PB.setP ?_ (by omega) _ | exact HPR.out)
    . refine PB.fromP (w1:=w1) ?_ HB1.out.size;repeat (first|refine PB.setP ?_ (by omega) _ | exact HPG3.out)
    . repeat (first|refine xQ ?_ (by simp) _ | exact HB3.out)
 .
  obtain rfl:=HB.out h0;obtain⟨d0,d1,d2,d3⟩:=E5 X2.out;obtain⟨g0,g1,g2,g3⟩:=ae6 X2.out;clear HK HB HL HG X1 X2;go_wp2_with fail;(try simp only[Exit.inBlock,Exit.then])
  refine xA (v:=.tuple #[.agg #[.slice none 0 0,.int .i64 0,.bool false,.bool false],.slice none 0 0,.int .i64 L]) ?_ rfl (ap4 rfl ?_)
  . rw[o7 rfl];go_simp
  . repeat (first|refine xQ ?_ (by simp) _ | exact HB1.out)
theorem bS9{w:World}{B:Nat}{t:TypeId}{G n:Nat}{xs:List Value}(h:w.ownsRow B t 1 (.slice (some ⟨G,0,none⟩) n n) n xs):w.heap[G]? = some (.cells xs.toArray t (0,0)):=by
 obtain⟨h1,h2 | ⟨g,cap,cur,h2,h3,h4,h5,h6,h7,h8⟩⟩:=h
 . cases h2.1
 . injection h2 with e1 e2 e3;injection e1 with e1;injection e1 with e1;subst e1 e3;have hx:cur=xs.toArray:=by rw[<- h8,qO (by simp;omega)]
   rw[h4,hx]
theorem cq5{B:Nat}{w w1:World}(h:w.grownBy w1 none)(hB:B<=w.heap.size):Below B w w1:=⟨h.os,h.tape,h.output,h.size,fun k hk=>h.block k (by omega) (by simp)⟩
theorem bi2:(prog.info? 5).map (·.size)=some 1:=by kernel_rfl
theorem br8{α:Type}(L xs ys:List α)(h:L.length=xs.length+ys.length):splice (splice L 0 xs) xs.length ys=xs++ys:=by unfold splice;simp only[List.take_zero,xn,qa];rw[xF (by omega),qZ,qt (by simp;omega),xH]
theorem bE2{w:World}{G n:Nat}{t:TypeId}{xs:List Value}(h:w.heap[G]? = some (.cells xs.toArray t (0,0)))(hl:xs.length=n)(hm:n<=1000000):Reads w (.slice (some ⟨G,0,none⟩) n n) n xs:=by refine⟨hl,_,n,rfl,qB _,by unfold maxLen;omega,fun _=>⟨G,0,rfl,fun j u hu=>?_⟩⟩;rw[qV _ _ _ _ _ _ h];simpa using hu
theorem srcP{w:World}{ao:Option Addr}{n cap:Nat}{bs:List UInt8}(h:Reads w (.slice ao n cap) n (bs.map U)){k:Nat}(hk:0<(bs.take k).length):∃ad,ao=some ad/\∀j v,((bs.take k).map U)[j]? = some v->w.cell? (ad.add j)=some v:=by
 obtain⟨hl,ao',cap',e,h3,h4,h5⟩:=h;injection e with e1 e2 e3;subst e1 e3;rw[qM]at hl;rw[qL]at hk;obtain⟨b,off,rfl,hc⟩:=h5 (by omega);refine⟨_,rfl,fun j v hv=>?_⟩;rw[addP];rw[List.map_take,xR]at hv;split at hv
 . exact hc _ _ hv
 . cases hv
def br9(w:World)(z:SPipe × Nat × Int)(e:Ending)(w':World):Prop:=
 ∃ar cr,e=.returned (.tuple #[W9 z.1 ar cr,.int .i64 (z.2.1:Int),.int .i64 z.2.2])/\PB w w' ar cr z.1.b/\Bq w w'
theorem bi3{w w':World}{e:Ending}{r:Int}(he:e=.returned (.tuple #[.agg #[.slice none 0 0,.int .i64 0,.bool false,.bool false],.int .i64 0,.int .i64 r]))(hb:Bq w w'):br9 w (ab0,0,r) e w':=
 ⟨none,0,he,PB.none _ _,hb⟩
theorem bE3{p:SPipe}{cs:List UInt8}(h:pckO p.b.length p.room p.closed p.shut≠0):pwrite p cs=(ab0,0,pckO p.b.length p.room p.closed p.shut):=by
 rw[bJ2]at h ⊢;unfold pwrite;by_cases h1:pchk p=0
 . by_cases h2:p.closed=true
   . simp[h1,h2]
   . simp[h1,h2]at h
 . simp[h1]
theorem bs0{p:SPipe}{cs:List UInt8}(h:pckO p.b.length p.room p.closed p.shut=0)(hs:p.shut=true):pwrite p cs=(⟨[],p.room,p.closed,p.shut⟩,cs.length,0):=by obtain⟨h1,h2⟩:=bi1 h;unfold pwrite;rw[qA (fun e=>e h1),qA (by rw[h2];simp),qF hs]
theorem bT0{p:SPipe}{cs:List UInt8}(h:pckO p.b.length p.room p.closed p.shut=0)(hs:p.shut=false):pwrite p cs=(⟨p.b++cs.take (pfit cs.length p.b.length p.room),p.room,p.closed,p.shut⟩,pfit cs.length p.b.length p.room,0):=by obtain⟨h1,h2⟩:=bi1 h;unfold pwrite;rw[qA (fun e=>e h1),qA (by rw[h2];simp),qA (by rw[hs];simp)]
theorem cd6(ab ac:Option Addr)(cap cc:Nat)(p:SPipe)(cs:List UInt8)(w:World)(hr:Reads w (.slice ab p.b.length cap) p.b.length (p.b.map U))(hrc:Reads w (.slice ac cs.length cc) cs.length (cs.map U)):
 Calls prog 166 #[W9 p ab cap,.slice ac cs.length cc] w fun e w'=>br9 w (pwrite p cs) e w':=by
 obtain⟨i0,hi,hi0,hi1,hi2⟩:=info_parts bg7;obtain⟨bs,room,cl,sh⟩:=p;have hn:=(F6 hr).1;have hm:=(F6 hrc).1;have HR:=qH hr;have HRC:=qH hrc;have HO:Hid _:=fun(W:World)=>bi0 ab bs.length cap room cl sh W hn;have HI:Hid _:=fun(W:World)=>br3 ab bs.length cap room cl sh W;have HB:Hid _:=fun h=>bE3 (p:=⟨bs,room,cl,sh⟩) (cs:=cs) h;have HG:Hid _:=fun h=>bs0 (p:=⟨bs,room,cl,sh⟩) (cs:=cs) h;have HK:Hid _:=fun h=>bT0 (p:=⟨bs,room,cl,sh⟩) (cs:=cs) h
 have HL:Hid (pckO bs.length room cl sh=0->bs.length<=plim room/\plim room<=40000):=(show pckO bs.length room cl sh=0->bs.length<=plim room/\plim room<=40000 from fun h=>by
  obtain⟨h1,h2⟩:=bi1 (p:=⟨bs,room,cl,sh⟩) h
  obtain⟨_,g2,g3,_⟩:=bg5 h1
  exact⟨g3,aK2 g2⟩)
 have HF:Hid ((bs.length:Int)<=plim room->(pfit cs.length bs.length room:Int)=if (cs.length:Int)<=plim room-bs.length then (cs.length:Int) else plim room-bs.length):=(show (bs.length:Int)<=plim room->(pfit cs.length bs.length room:Int)=if (cs.length:Int)<=plim room-bs.length then (cs.length:Int) else plim room-bs.length from fun h=>bq0 h);unfold W9;generalize hZ:pwrite ⟨bs,room,cl,sh⟩ cs=Z at *;simp only at HB HG HK hn ⊢;obtain⟨q,hq⟩:=qE (pfit cs.length bs.length room);obtain⟨L,hL⟩:=qE (pckO bs.length room cl sh);obtain⟨R,hR⟩:=qE (plim room);rw[<- hL]at HO HB HG HK HL;rw[<- hR]at HI HL HF;rw[<- hq]at HK HF;obtain⟨N,hN⟩:=qE bs.length;have HN:=qH hN;rw[<- hN]at HO HL HR HI HF hn ⊢;obtain⟨M,hM⟩:=qE cs.length;have HM:=qH hM;rw[<- hM]at HRC HF HG hm ⊢;clear hL hZ hr hN hq hR hrc hM;go_enter Tryz.func166,Tryz.ntmps166;go_wp2_with fail;refine (HO.out _).mono ?_;rintro e w1⟨rfl,hb1⟩
 obtain⟨x1,x2⟩:=bg8 hb1;have X1:Hid _:=x1;have X2:Hid _:=x2;obtain⟨c0,c1,c2,c3⟩:=E5 x1;have HB1:Hid (Bq w w1):=ao6.trans (hb1.mono ao6.size);have hs:w.heap.size+1<w1.heap.size:=by have:=hb1.size;simp at this;omega
 clear hb1 HO x1 x2;by_cases h0:L=0
 .
  obtain⟨hl1,hl2⟩:=HL.out h0
  cases sh with
  | true=>
   obtain rfl:=HG.out h0 rfl
   obtain⟨d0,d1,d2,d3⟩:=E5 X2.out
   obtain⟨f0,f1,f2,f3⟩:=ae6 X1.out
   obtain⟨g0,g1,g2,g3⟩:=ae6 X2.out
   clear HK HB HL HG X1 X2 HF HI
   subst h0
   go_wp2_with fail
   (try simp only[Exit.inBlock,Exit.then])
   refine xA (v:=.tuple #[.agg #[.slice none 0 0,.int .i64 room,.bool cl,.bool true],.int .i64 (M:Int),.int .i64 0]) ?_ rfl ⟨none,0,rfl,PB.none _ _,?_⟩
   . rw[o7 rfl]
     go_simp
   . repeat (first|refine xQ ?_ (by simp) _ | exact HB1.out)
  | false=>
   have HZ:Hid _:=HK.out h0 rfl
   have hf:=HF.out hl1
   clear HK HB HL HG HF
   subst h0
   have k0:=fun d os=>cell_regrown c0 d os
   have k1:=fun d os=>cell_regrown c1 d os
   have k2:=fun d os=>cell_regrown c2 d os
   have k3:=fun d os=>cell_regrown c3 d os
   have cF:∀d os,Calls prog 102 #[.agg #[.slice ab N cap,.int .i64 room,.bool cl,.bool false]] (Go.Sort.grow (redrawn w1 d) os) fun e w''=>e=.returned (.int .i64 R)/\∃p:Regrown,w''=Go.Sort.grow (redrawn w1 p.d) p.os:=fun d os=>Calls.regrown_of (HI.out _)
   go_upto_region 7 with fail
   refine wp_region_quiet_below (by kernel_rfl) (by kernel_rfl) ?_
   repeat (first|go_big_quiet_step (exact cF _ _) | quiet_step (exact cF _ _))
   refine wpQuiet_nil ?_
   intro _ hw'
   obtain⟨⟨dq,osq⟩,Cb⟩:=hw'
   subst Cb
   have heq:(if R-(N:Int)<(M:Int) then R-(N:Int) else (M:Int))=(q:Int):=by
    rw[hf]
    split <;> split <;> omega
   have hqM:q<=M:=by
    have:(q:Int)<=M:=by rw[hf];split <;> omega
    omega
   have hq4:N+q<=40000:=by
    have:(q:Int)<=R-N:=by rw[hf];split <;> omega
    omega
   have hmq:min (M:Int) (R-(N:Int))=(q:Int):=by rw[<- heq];split <;> omega
   first|rw[heq] | rw[hmq]
   have HB3:Hid (Bq w (Go.Sort.grow (redrawn w1 dq) osq)):=HB1.out.trans ((below_regrown w1 dq osq).mono HB1.out.size)
   have X1':Hid _:=((below_regrown w1 dq osq).block _ (by omega)).trans X1.out
   have X2':Hid _:=((below_regrown w1 dq osq).block _ (by omega)).trans X2.out
   have hs3:=(below_regrown w1 dq osq).size
   clear cF k0 k1 k2 k3 HB1 X1 X2 c0 c1 c2 c3 heq hmq hf HI
   generalize (Go.Sort.grow (redrawn w1 dq) osq)=w3 at *
   obtain⟨c0,c1,c2,c3⟩:=E5 X1'.out
   have hs4:w.heap.size+1<w3.heap.size:=by omega
   clear hs hs3 hl1 hl2
   have hb2:i0.bytes*(N+q)<=281474976710656:=by rw[hi2];omega
   have hb3:N+q<=maxLen:=by unfold maxLen;omega
   have HS1:Hid (∀W,Bq w W->0<((bs.take N).map U).length->∃ad,ab=some ad/\∀j v,((bs.take N).map U)[j]? = some v->W.cell? (ad.add j)=some v):=(show ∀W,Bq w W->0<((bs.take N).map U).length->∃ad,ab=some ad/\∀j v,((bs.take N).map U)[j]? = some v->W.cell? (ad.add j)=some v from fun W hW h=>srcP (Reads.below HR.out hW) (by simpa using h))
   have HS2:Hid (∀W,Bq w W->0<((cs.take q).map U).length->∃ad,ac=some ad/\∀j v,((cs.take q).map U)[j]? = some v->W.cell? (ad.add j)=some v):=(show ∀W,Bq w W->0<((cs.take q).map U).length->∃ad,ac=some ad/\∀j v,((cs.take q).map U)[j]? = some v->W.cell? (ad.add j)=some v from fun W hW h=>srcP (Reads.below HRC.out hW) (by simpa using h))
   have hbs:bs.take N=bs:=by rw[HN.out,qZ]
   rw[hbs]at HS1
   obtain⟨X1,hX1⟩:=qE (bs.map U)
   obtain⟨X2,hX2⟩:=qE ((cs.take q).map U)
   have HX1:=qH hX1
   have HX2:=qH hX2
   have Jw:=qH (show X1.length=N by rw[hX1,qM,HN.out])
   have Gz:=qH (show X2.length=q by rw[hX2,qM,qL,<- HM.out];omega)
   rw[<- hX1]at HS1
   rw[<- hX2]at HS2
   obtain⟨NQ,hNQ⟩:=qE (N+q)
   have HPB:Hid (∀W,W.heap[w3.heap.size]? = some (.cells (X1++X2).toArray 5 (0,0))->PB w3 W (some ⟨w3.heap.size,0,none⟩) NQ (bs++cs.take q)):=(show ∀W,W.heap[w3.heap.size]? = some (.cells (X1++X2).toArray 5 (0,0))->PB w3 W (some ⟨w3.heap.size,0,none⟩) NQ (bs++cs.take q) from fun W hW=>by
    have hl:(bs++cs.take q).length=NQ:=by rw[qG,qL,<- HN.out,<- HM.out];omega
    refine⟨?_,(fun a ha=>by injection ha with ha;subst ha;exact qB _),fun h=>by cases h⟩
    rw[hl]
    have:=bE2 hW (n:=NQ) (by rw[qG,Jw.out,Gz.out,hNQ]) (by omega)
    rw[hX1,hX2,<- qz]at this
    exact this)
   clear hX1 hX2 HR HRC hbs
   go_wp2_with (at_make;refine wpList_make_full _ rfl (.tmp 35) (.tmp 35) 28 rfl w3.heap.size 5 i0 (.int .u8 0) 1 underlying28 hi hi0 hi1 .i64 .i64 _ _ (N+q) rfl rfl (by simp) (by simp) hb2 hb3 (qB _) ?_)
   intro w4 Am Mc
   have HB4:Hid (Bq w3 w4):=cq5 Mc (qB _)
   obtain⟨L0,hL0⟩:=qE ((madeCells #[Value.int .u8 0] (N+q)).toList)
   have HL0:=qH (show L0.length=NQ by rw[hL0,hNQ];simp[madeCells])
   have HR4:=qH (show w4.heap[w3.heap.size]? = some (.cells L0.toArray 5 (0,0)) by rw[hL0];exact bS9 Am)
   clear Am Mc hL0 c0 c1 c2 c3
   obtain⟨c0,c1,c2,c3⟩:=E5 ((HB4.out.block _ (by omega)).trans X1'.out)
   have HNQ:=qH hNQ
   have hNQ4:N<=NQ:=by omega
   have hNQ5:NQ<=40000:=by omega
   rw[<- hNQ]
   clear hNQ hb2 hb3
   go_wp2_with (refine wpList_copy_splice rfl (.tmp 37) (.tmp 39) 28 28 rfl 5 underlying28 bi2 (some ⟨w3.heap.size,0,none⟩) ab NQ NQ N cap rfl rfl w3.heap.size 0 L0 5 HR4.out X1 ?c1 ?c2 ?c3 ?c4 w3.heap.size w3 HB4.out (qB _) ?_)
   case c1=>rw[Jw.out];exact (ql (by omega)).symm
   case c2=>first|exact fun h=>⟨rfl,HS1.out w4 (HB3.out.trans (HB4.out.mono HB3.out.size)) h⟩ | exact fun h=>HS1.out w4 (HB3.out.trans (HB4.out.mono HB3.out.size)) h
   case c3=>rw[Jw.out,HL0.out];omega
   case c4=>rw[HX1.out];exact aP2
   intro w5 hr5 hb5
   obtain⟨L1,hL1⟩:=qE (splice L0 0 X1)
   have HR5:=qH (show w5.heap[w3.heap.size]? = some (.cells L1.toArray 5 (0,0)) by rw[hL1];exact hr5.out)
   have HB5:=qH hb5
   have HL1:=qH (show L1.length=NQ by rw[hL1,length_splice _ _ _ (by rw[Jw.out,HL0.out];omega),HL0.out])
   have HSP:=qH (show splice L1 N X2=X1++X2 by
    rw[hL1]
    have:=br8 L0 X1 X2 (by rw[HL0.out,Jw.out,Gz.out,HNQ.out])
    rw[Jw.out]at this
    exact this)
   have Pj:=qT HB3 hb5
   clear hr5 hb5 hL1 HB4 HR4 HS1 c0 c1 c2 c3
   obtain⟨c0,c1,c2,c3⟩:=E5 ((HB5.out.block _ (by omega)).trans X1'.out)
   by_cases hq0:NQ=N
   .
    have hqz:q=0:=by have:=HNQ.out;omega
    subst hq0
    go_wp2_with (refine wpList_copy_splice rfl (.tmp 45) (.tmp 46) 28 28 rfl 5 underlying28 bi2 (some ⟨w3.heap.size,0,none⟩) ac 0 0 M cc rfl rfl w3.heap.size NQ L1 5 HR5.out X2 ?c1 ?c2 ?c3 ?c4 w3.heap.size w3 HB5.out (qB _) ?_)
    case c1=>rw[Gz.out];first|(rw[hqz];exact (Nat.min_eq_right (qP _)).symm)|(rw[Nat.min_eq_right (qP _)])
    case c2=>first|exact fun h=>absurd h (by rw[Gz.out,hqz];exact Nat.lt_irrefl 0) | exact fun h=>⟨rfl,HS2.out w5 Pj.out h⟩ | exact fun h=>HS2.out w5 Pj.out h | exact fun h=>absurd h (by rw[Gz.out];exact Nat.lt_irrefl 0)
    case c3=>rw[Gz.out,HL1.out];have:=HNQ.out;omega
    case c4=>rw[HX2.out];exact aP2
    intro w6 hr6 hb6
    have HR6:=qH (show w6.heap[w3.heap.size]? = some (.cells (X1++X2).toArray 5 (0,0)) by rw[hr6.out,HSP.out])
    have HB6:=qH hb6
    clear hr6 hb6 HS2 HR5
    clear c0 c1 c2 c3
    obtain⟨c0,c1,c2,c3⟩:=E5 ((HB6.out.block _ (by omega)).trans X1'.out)
    obtain⟨d0,d1,d2,d3⟩:=E5 ((HB6.out.block _ (by omega)).trans X2'.out)
    obtain⟨f0,f1,f2,f3⟩:=ae6 ((HB6.out.block _ (by omega)).trans X1'.out)
    obtain⟨g0,g1,g2,g3⟩:=ae6 ((HB6.out.block _ (by omega)).trans X2'.out)
    clear X1' X2'
    go_wp2_with fail
    (try simp only[Exit.inBlock,Exit.then])
    refine xA (v:=.tuple #[.agg #[.slice (some ⟨w3.heap.size,0,none⟩) NQ NQ,.int .i64 room,.bool cl,.bool false],.int .i64 ((q:Nat):Int),.int .i64 0]) ?_ rfl ?_
    . rw[o7 rfl]
      go_simp
    .
     rw[HZ.out]
     have hlen:(bs++List.take q cs).length=NQ:=by
      rw[qG,qL,<- HN.out,<- HM.out]
      have:=HNQ.out
      omega
     refine⟨some ⟨w3.heap.size,0,none⟩,NQ,?_,?_,?_⟩
     . unfold W9
       simp only
       rw[hlen]
     . refine PB.fromP (w1:=w3) ?_ HB3.out.size
       repeat (first|refine PB.setP ?_ (by omega) _ | exact HPB.out w6 HR6.out)
     . have hbw:Bq w w6:=HB3.out.trans (HB6.out.mono HB3.out.size)
       repeat (first|refine xQ ?_ (by simp) _ | exact hbw)
   .
    go_wp2_with (refine wpList_copy_splice rfl (.tmp 45) (.tmp 46) 28 28 rfl 5 underlying28 bi2 (some ⟨w3.heap.size,N,none⟩) ac (NQ-N) (NQ-N) M cc rfl rfl w3.heap.size N L1 5 HR5.out X2 ?c1 ?c2 ?c3 ?c4 w3.heap.size w3 HB5.out (qB _) ?_)
    case c1=>rw[Gz.out];first|(have:=HNQ.out;show q=min M (NQ-N);omega)|(rw[Nat.min_eq_right (qP _)])
    case c2=>first|exact fun h=>⟨rfl,HS2.out w5 Pj.out h⟩ | exact fun h=>HS2.out w5 Pj.out h | exact fun h=>absurd h (by rw[Gz.out];exact Nat.lt_irrefl 0)
    case c3=>rw[Gz.out,HL1.out];have:=HNQ.out;omega
    case c4=>rw[HX2.out];exact aP2
    intro w6 hr6 hb6
    have HR6:=qH (show w6.heap[w3.heap.size]? = some (.cells (X1++X2).toArray 5 (0,0)) by rw[hr6.out,HSP.out])
    have HB6:=qH hb6
    clear hr6 hb6 HS2 HR5
    clear c0 c1 c2 c3
    obtain⟨c0,c1,c2,c3⟩:=E5 ((HB6.out.block _ (by omega)).trans X1'.out)
    obtain⟨d0,d1,d2,d3⟩:=E5 ((HB6.out.block _ (by omega)).trans X2'.out)
    obtain⟨f0,f1,f2,f3⟩:=ae6 ((HB6.out.block _ (by omega)).trans X1'.out)
    obtain⟨g0,g1,g2,g3⟩:=ae6 ((HB6.out.block _ (by omega)).trans X2'.out)
    clear X1' X2'
    go_wp2_with fail
    (try simp only[Exit.inBlock,Exit.then])
    refine xA (v:=.tuple #[.agg #[.slice (some ⟨w3.heap.size,0,none⟩) NQ NQ,.int .i64 room,.bool cl,.bool false],.int .i64 ((q:Nat):Int),.int .i64 0]) ?_ rfl ?_
    . rw[o7 rfl]
      go_simp
    .
     rw[HZ.out]
     have hlen:(bs++List.take q cs).length=NQ:=by
      rw[qG,qL,<- HN.out,<- HM.out]
      have:=HNQ.out
      omega
     refine⟨some ⟨w3.heap.size,0,none⟩,NQ,?_,?_,?_⟩
     . unfold W9
       simp only
       rw[hlen]
     . refine PB.fromP (w1:=w3) ?_ HB3.out.size
       repeat (first|refine PB.setP ?_ (by omega) _ | exact HPB.out w6 HR6.out)
     . have hbw:Bq w w6:=HB3.out.trans (HB6.out.mono HB3.out.size)
       repeat (first|refine xQ ?_ (by simp) _ | exact hbw)
 .
  obtain rfl:=HB.out h0;obtain⟨d0,d1,d2,d3⟩:=E5 X2.out;obtain⟨g0,g1,g2,g3⟩:=ae6 X2.out;clear HK HB HL HG X1 X2 HF HI;go_wp2_with fail;(try simp only[Exit.inBlock,Exit.then])
  refine xA (v:=.tuple #[.agg #[.slice none 0 0,.int .i64 0,.bool false,.bool false],.int .i64 0,.int .i64 L]) ?_ rfl (bi3 rfl ?_)
  . rw[o7 rfl];go_simp
  . repeat (first|refine xQ ?_ (by simp) _ | exact HB1.out)
end Go.Proofs.YtllgglolcgdehaaGreatDoor
