/- What the developers' Write does, for every pipe, and more. -/
import Derived.Test.YtmejdflmcikkdaaGreatDoorVAb
import Derived.Laws.CopyOwn
import Derived.OwnWalk
import Derived.Test.YtmejdflmcikkdaaGreatDoorVa03
set_option linter.all false
set_option maxRecDepth 100000
set_option maxHeartbeats 64000000
namespace Go.Proofs.YtmejdflmcikkdaaGreatDoor
open Go.RowKit Go.Gs Tryz
variable {t:TypeId}{xs:List Value}{α:Type}{bs cs b:qU}{e:Ending}{r:Int}{p x:SPipe}{d:RD}
theorem bI0{w:World}{B:Nat}{G n:Nat}(h:w.ownsRow B t 1 (.slice (some ⟨G,0,none⟩) n n) n xs):w.heap[G]?=some (.cells xs.toArray t (0,0)):=by
 obtain⟨h1,h2 | ⟨g,cap,cur,h2,h3,h4,h5,h6,h7,h8⟩⟩:=h
 . cases h2.1
 . injection h2 with e1 e2 e3;injection e1 with e1;injection e1 with e1;subst e1 e3;have hx:cur=xs.toArray:=by rw[<- h8,qP (by simp;omega)]
   rw[h4,hx]
theorem ce8{B:Nat}{w w1:World}(h:w.grownBy w1 none)(hB:B<=w.heap.size):Below B w w1:=⟨h.os,h.tape,h.output,h.size,fun k hk=>h.block k qO (by simp)⟩
theorem bd0:(prog.info? 5).map (·.size)=some 1:=qQ
theorem bl3(L xs ys:List α)(h:L.length=xs.length+ys.length):splice (splice L 0 xs) xs.length ys=xs++ys:=by unfold splice;simp only[List.take_zero,zR,qk];rw[zd qO,qj,qi (by simp;omega),xz]
theorem bv9{w:World}{G n:Nat}(h:w.heap[G]?=some (.cells xs.toArray t (0,0)))(hl:xs.length=n)(hm:n<=250000000):Reads w (.slice (some ⟨G,0,none⟩) n n) n xs:=by refine⟨hl,_,n,rfl,qA _,by unfold maxLen;omega,fun _=>⟨G,0,rfl,fun j u hu=>?_⟩⟩;rw[qY _ _ _ _ _ _ h];simpa using hu
theorem srcP{w:World}{ao:Option Addr}{n cap:Nat}(h:Reads w (.slice ao n cap) n (bs.map U)){k:Nat}(hk:0<(bs.take k).length):∃ad,ao=some ad/\∀j v,((bs.take k).map U)[j]?=some v->w.cell? (ad.add j)=some v:=by
 obtain⟨hl,ao',cap',e,h3,h4,h5⟩:=h;injection e with e1 e2 e3;subst e1 e3;rw[qS]at hl;rw[qX]at hk;obtain⟨b,off,rfl,hc⟩:=h5 qO;refine⟨_,rfl,fun j v hv=>?_⟩;rw[addP];rw[List.map_take,xg]at hv;split at hv
 . exact hc _ _ hv
 . cases hv
def bl4(w:World)(z:SPipe × Nat × Int)(e:Ending)(w':World):Prop:=
 ∃ar cr,e=.returned (.tuple #[M8 z.1 ar cr,.int .i64 (z.2.1:Int),.int .i64 z.2.2])/\PB w w' ar cr z.1.b/\Bq w w'
theorem bd1{w w':World}(he:e=.returned (.tuple #[.agg #[.slice none 0 0,.int .i64 0,.bool false,.bool false],.int .i64 0,.int .i64 r]))(hb:Bq w w'):bl4 w (Y3,0,r) e w':=
 ⟨none,0,he,PB.none _ _,hb⟩
theorem bw0(h:pckO p.b.length p.room p.closed p.shut≠0):pwrite p cs=(Y3,0,pckO p.b.length p.room p.closed p.shut):=by
 rw[bE2]at h ⊢;unfold pwrite;by_cases h1:pchk p=0
 . by_cases h2:p.closed=true
   . simp[h1,h2]
   . simp[h1,h2]at h
 . simp[h1]
theorem bl5(h:pckO p.b.length p.room p.closed p.shut=0)(hs:p.shut=true):pwrite p cs=(⟨[],p.room,p.closed,p.shut⟩,cs.length,0):=by obtain⟨h1,h2⟩:=bc9 h;unfold pwrite;rw[qB (fun e=>e h1),qB (by rw[h2];simp),qF hs]
theorem bI1(h:pckO p.b.length p.room p.closed p.shut=0)(hs:p.shut=false):pwrite p cs=(⟨p.b++cs.take (pfit cs.length p.b.length p.room),p.room,p.closed,p.shut⟩,pfit cs.length p.b.length p.room,0):=by obtain⟨h1,h2⟩:=bc9 h;unfold pwrite;rw[qB (fun e=>e h1),qB (by rw[h2];simp),qB (by rw[hs];simp)]
theorem bT1(ab ac:Option Addr)(cap cc:Nat)(p:SPipe)(cs:qU)(w:World)(hr:Reads w (.slice ab p.b.length cap) p.b.length (p.b.map U))(hrc:Reads w (.slice ac cs.length cc) cs.length (cs.map U)):
 Calls prog 94 #[M8 p ab cap,.slice ac cs.length cc] w fun e w'=>bl4 w (pwrite p cs) e w':=by
 obtain⟨i0,hi,hi0,hi1,hi2⟩:=info_parts ba3;obtain⟨bs,room,cl,sh⟩:=p;have hn:=(t8 hr).1;have hm:=(t8 hrc).1;have HR:=qH hr;have HRC:=qH hrc;have HO:Hid _:=fun(W:World)=>bc8 ab bs.length cap room cl sh W hn;have HI:Hid _:=fun(W:World)=>bk7 ab bs.length cap room cl sh W;have HB:Hid _:=fun h=>bw0 (p:=⟨bs,room,cl,sh⟩) (cs:=cs) h;have HG:Hid _:=fun h=>bl5 (p:=⟨bs,room,cl,sh⟩) (cs:=cs) h;have HK:Hid _:=fun h=>bI1 (p:=⟨bs,room,cl,sh⟩) (cs:=cs) h
 have HL:Hid (pckO bs.length room cl sh=0->bs.length<=plim room/\plim room<=40000):=(show pckO bs.length room cl sh=0->bs.length<=plim room/\plim room<=40000 from fun h=>by
  obtain⟨h1,h2⟩:=bc9 (p:=⟨bs,room,cl,sh⟩) h
  obtain⟨_,g2,g3,_⟩:=aI4 h1
  exact⟨g3,ae1 g2⟩)
 have HF:Hid ((bs.length:Int)<=plim room->(pfit cs.length bs.length room:Int)=if (cs.length:Int)<=plim room-bs.length then (cs.length:Int) else plim room-bs.length):=(show (bs.length:Int)<=plim room->(pfit cs.length bs.length room:Int)=if (cs.length:Int)<=plim room-bs.length then (cs.length:Int) else plim room-bs.length from fun h=>bi5 h);unfold M8;generalize hZ:pwrite ⟨bs,room,cl,sh⟩ cs=Z at *;simp only at HB HG HK hn ⊢;obtain⟨q,hq⟩:=qE (pfit cs.length bs.length room);obtain⟨L,hL⟩:=qE (pckO bs.length room cl sh);obtain⟨R,hR⟩:=qE (plim room);rw[<- hL]at HO HB HG HK HL;rw[<- hR]at HI HL HF;rw[<- hq]at HK HF;obtain⟨N,hN⟩:=qE bs.length;have HN:=qH hN;rw[<- hN]at HO HL HR HI HF hn ⊢;obtain⟨M,hM⟩:=qE cs.length;have HM:=qH hM;rw[<- hM]at HRC HF HG hm ⊢;clear hL hZ hr hN hq hR hrc hM;go_enter func94,ntmps94;go_wp2_with fail;refine (HO.o _).mono ?_;rintro e w1⟨rfl,hb1⟩;obtain⟨x1,x2⟩:=aB4 hb1;have X1:Hid _:=x1;have X2:Hid _:=x2;obtain⟨c0,c1,c2,c3⟩:=C9 x1;have HB1:Hid (Bq w w1):=Q2.trans (hb1.mono Q2.size);have hs:w.heap.size+1<w1.heap.size:=by have:=hb1.size;simp at this;omega
 clear hb1 HO x1 x2;by_cases h0:L=0
 .
  obtain⟨hl1,hl2⟩:=HL.o h0
  cases sh with
  | true=>
   obtain rfl:=HG.o h0 rfl;obtain⟨d0,d1,d2,d3⟩:=C9 X2.o;obtain⟨f0,f1,f2,f3⟩:=ab5 X1.o;obtain⟨g0,g1,g2,g3⟩:=ab5 X2.o;clear HK HB HL HG X1 X2 HF HI;subst h0;go_wp2_with fail;(try simp only[Exit.inBlock,Exit.then])
   refine qx (v:=.tuple #[.agg #[.slice none 0 0,.int .i64 room,.bool cl,.bool true],.int .i64 (M:Int),.int .i64 0]) ?_ rfl ⟨none,0,rfl,PB.none _ _,?_⟩
   . rw[j9 rfl];go_simp
   . repeat (first|refine Below.setCell ?_ (by simp) _ | exact HB1.o)
  | false=>
   have HZ:Hid _:=HK.o h0 rfl;have hf:=HF.o hl1;clear HK HB HL HG HF;subst h0;have k0:=fun d os=>cell_regrown c0 d os;have k1:=fun d os=>cell_regrown c1 d os;have k2:=fun d os=>cell_regrown c2 d os;have k3:=fun d os=>cell_regrown c3 d os;have cF:∀d os,Calls prog 74 #[.agg #[.slice ab N cap,.int .i64 room,.bool cl,.bool false]] (Go.Sort.grow (redrawn w1 d) os) fun e w''=>e=.returned (.int .i64 R)/\∃p:Regrown,w''=Go.Sort.grow (redrawn w1 p.d) p.os:=fun d os=>Calls.regrown_of (HI.o _);go_upto_region 7 with fail;refine wp_region_quiet_below qQ qQ ?_;repeat (first|go_big_quiet_step (exact cF _ _) | quiet_step (exact cF _ _))
   refine wpQuiet_nil ?_;intro _ hw';obtain⟨⟨dq,osq⟩,Av⟩:=hw';subst Av;have heq:(if R-(N:Int)<(M:Int) then R-(N:Int) else (M:Int))=(q:Int):=by rw[hf];split <;> split <;> omega
   have hqM:q<=M:=by
    have:(q:Int)<=M:=by rw[hf];split <;> omega
    omega
   have hq4:N+q<=40000:=by
    have:(q:Int)<=R-N:=by rw[hf];split <;> omega
    omega
   have hmq:min (M:Int) (R-(N:Int))=(q:Int):=by rw[<- heq];split <;> omega
   first|rw[heq] | rw[hmq]
   have HB3:Hid (Bq w (Go.Sort.grow (redrawn w1 dq) osq)):=HB1.o.trans ((below_regrown w1 dq osq).mono HB1.o.size);have X1':Hid _:=((below_regrown w1 dq osq).block _ qO).trans X1.o;have X2':Hid _:=((below_regrown w1 dq osq).block _ qO).trans X2.o;have hs3:=(below_regrown w1 dq osq).size;clear cF k0 k1 k2 k3 HB1 X1 X2 c0 c1 c2 c3 heq hmq hf HI;generalize (Go.Sort.grow (redrawn w1 dq) osq)=w3 at *;obtain⟨c0,c1,c2,c3⟩:=C9 X1'.o;have hs4:w.heap.size+1<w3.heap.size:=qO;clear hs hs3 hl1 hl2;have hb2:i0.bytes*(N+q)<=281474976710656:=by rw[hi2];omega
   have hb3:N+q<=maxLen:=by unfold maxLen;omega
   have HS1:Hid (∀W,Bq w W->0<((bs.take N).map U).length->∃ad,ab=some ad/\∀j v,((bs.take N).map U)[j]?=some v->W.cell? (ad.add j)=some v):=(show ∀W,Bq w W->0<((bs.take N).map U).length->∃ad,ab=some ad/\∀j v,((bs.take N).map U)[j]?=some v->W.cell? (ad.add j)=some v from fun W hW h=>srcP (Reads.below HR.o hW) (by simpa using h));have HS2:Hid (∀W,Bq w W->0<((cs.take q).map U).length->∃ad,ac=some ad/\∀j v,((cs.take q).map U)[j]?=some v->W.cell? (ad.add j)=some v):=(show ∀W,Bq w W->0<((cs.take q).map U).length->∃ad,ac=some ad/\∀j v,((cs.take q).map U)[j]?=some v->W.cell? (ad.add j)=some v from fun W hW h=>srcP (Reads.below HRC.o hW) (by simpa using h));have hbs:bs.take N=bs:=by rw[HN.o,qj]
   rw[hbs]at HS1;obtain⟨X1,hX1⟩:=qE (bs.map U);obtain⟨X2,hX2⟩:=qE ((cs.take q).map U);have HX1:=qH hX1;have HX2:=qH hX2;have Lm:=qH (show X1.length=N by rw[hX1,qS,HN.o]);have Hy:=qH (show X2.length=q by rw[hX2,qS,qX,<- HM.o];omega);rw[<- hX1]at HS1;rw[<- hX2]at HS2;obtain⟨NQ,hNQ⟩:=qE (N+q)
   have HPB:Hid (∀W,W.heap[w3.heap.size]?=some (.cells (X1++X2).toArray 5 (0,0))->PB w3 W (some ⟨w3.heap.size,0,none⟩) NQ (bs++cs.take q)):=(show ∀W,W.heap[w3.heap.size]?=some (.cells (X1++X2).toArray 5 (0,0))->PB w3 W (some ⟨w3.heap.size,0,none⟩) NQ (bs++cs.take q) from fun W hW=>by
    have hl:(bs++cs.take q).length=NQ:=by rw[qI,qX,<- HN.o,<- HM.o];omega
    refine⟨?_,(fun a ha=>by injection ha with ha;subst ha;exact qA _),fun h=>by cases h⟩
    rw[hl]
    have:=bv9 hW (n:=NQ) (by rw[qI,Lm.o,Hy.o,hNQ]) qO
    rw[hX1,hX2,<- xF]at this
    exact this)
   clear hX1 hX2 HR HRC hbs;go_wp2_with (at_make;refine wpList_make_full _ rfl (.tmp 35) (.tmp 35) 28 rfl w3.heap.size 5 i0 (.int .u8 0) 1 underlying28 hi hi0 hi1 .i64 .i64 _ _ (N+q) rfl rfl (by simp) (by simp) hb2 hb3 (qA _) ?_)
   intro w4 Cm Ns;have HB4:Hid (Bq w3 w4):=ce8 Ns (qA _);obtain⟨L0,hL0⟩:=qE ((madeCells #[Value.int .u8 0] (N+q)).toList);have HL0:=qH (show L0.length=NQ by rw[hL0,hNQ];simp[madeCells]);have HR4:=qH (show w4.heap[w3.heap.size]?=some (.cells L0.toArray 5 (0,0)) by rw[hL0];exact bI0 Cm);clear Cm Ns hL0 c0 c1 c2 c3;obtain⟨c0,c1,c2,c3⟩:=C9 ((HB4.o.block _ qO).trans X1'.o);have HNQ:=qH hNQ;have hNQ4:N<=NQ:=qO;have hNQ5:NQ<=40000:=qO;rw[<- hNQ];clear hNQ hb2 hb3;go_wp2_with (refine wpList_copy_splice rfl (.tmp 37) (.tmp 39) 28 28 rfl 5 underlying28 bd0 (some ⟨w3.heap.size,0,none⟩) ab NQ NQ N cap rfl rfl w3.heap.size 0 L0 5 HR4.o X1 ?c1 ?c2 ?c3 ?c4 w3.heap.size w3 HB4.o (qA _) ?_)
   case c1=>rw[Lm.o];exact (zA qO).symm
   case c2=>first|exact fun h=>⟨rfl,HS1.o w4 (HB3.o.trans (HB4.o.mono HB3.o.size)) h⟩ | exact fun h=>HS1.o w4 (HB3.o.trans (HB4.o.mono HB3.o.size)) h
   case c3=>rw[Lm.o,HL0.o];omega
   case c4=>rw[HX1.o];exact aI5
   intro w5 hr5 hb5;obtain⟨L1,hL1⟩:=qE (splice L0 0 X1);have HR5:=qH (show w5.heap[w3.heap.size]?=some (.cells L1.toArray 5 (0,0)) by rw[hL1];exact hr5.out);have HB5:=qH hb5;have HL1:=qH (show L1.length=NQ by rw[hL1,length_splice _ _ _ (by rw[Lm.o,HL0.o];omega),HL0.o])
   have HSP:=qH (show splice L1 N X2=X1++X2 by
    rw[hL1]
    have:=bl3 L0 X1 X2 (by rw[HL0.o,Lm.o,Hy.o,HNQ.o])
    rw[Lm.o]at this
    exact this)
   have Qu:=qT HB3 hb5;clear hr5 hb5 hL1 HB4 HR4 HS1 c0 c1 c2 c3;obtain⟨c0,c1,c2,c3⟩:=C9 ((HB5.o.block _ qO).trans X1'.o);by_cases hq0:NQ=N
   .
    have hqz:q=0:=by have:=HNQ.o;omega
    subst hq0;go_wp2_with (refine wpList_copy_splice rfl (.tmp 45) (.tmp 46) 28 28 rfl 5 underlying28 bd0 (some ⟨w3.heap.size,0,none⟩) ac 0 0 M cc rfl rfl w3.heap.size NQ L1 5 HR5.o X2 ?c1 ?c2 ?c3 ?c4 w3.heap.size w3 HB5.o (qA _) ?_)
    case c1=>rw[Hy.o];first|(rw[hqz];exact (Nat.min_eq_right (qM _)).symm)|(rw[Nat.min_eq_right (qM _)])
    case c2=>first|exact fun h=>absurd h (by rw[Hy.o,hqz];exact Nat.lt_irrefl 0) | exact fun h=>⟨rfl,HS2.o w5 Qu.o h⟩ | exact fun h=>HS2.o w5 Qu.o h | exact fun h=>absurd h (by rw[Hy.o];exact Nat.lt_irrefl 0)
    case c3=>rw[Hy.o,HL1.o];have:=HNQ.o;omega
    case c4=>rw[HX2.o];exact aI5
    intro w6 hr6 hb6;have HR6:=qH (show w6.heap[w3.heap.size]?=some (.cells (X1++X2).toArray 5 (0,0)) by rw[hr6.out,HSP.o]);have HB6:=qH hb6;clear hr6 hb6 HS2 HR5;clear c0 c1 c2 c3;obtain⟨c0,c1,c2,c3⟩:=C9 ((HB6.o.block _ qO).trans X1'.o);obtain⟨d0,d1,d2,d3⟩:=C9 ((HB6.o.block _ qO).trans X2'.o);obtain⟨f0,f1,f2,f3⟩:=ab5 ((HB6.o.block _ qO).trans X1'.o);obtain⟨g0,g1,g2,g3⟩:=ab5 ((HB6.o.block _ qO).trans X2'.o);clear X1' X2';go_wp2_with fail;(try simp only[Exit.inBlock,Exit.then])
    refine qx (v:=.tuple #[.agg #[.slice (some ⟨w3.heap.size,0,none⟩) NQ NQ,.int .i64 room,.bool cl,.bool false],.int .i64 ((q:Nat):Int),.int .i64 0]) ?_ rfl ?_
    . rw[j9 rfl];go_simp
    . rw[HZ.o];have hlen:(bs++List.take q cs).length=NQ:=by rw[qI,qX,<- HN.o,<- HM.o];have:=HNQ.o;omega
      refine⟨some ⟨w3.heap.size,0,none⟩,NQ,?_,?_,?_⟩
      . unfold M8;simp only;rw[hlen]
      . refine PB.fromP (w1:=w3) ?_ HB3.o.size;repeat (first|refine PB.setP ?_ qO _ | exact HPB.o w6 HR6.o)
      . have hbw:Bq w w6:=HB3.o.trans (HB6.o.mono HB3.o.size);repeat (first|refine Below.setCell ?_ (by simp) _ | exact hbw)
   .
    go_wp2_with (refine wpList_copy_splice rfl (.tmp 45) (.tmp 46) 28 28 rfl 5 underlying28 bd0 (some ⟨w3.heap.size,N,none⟩) ac (NQ-N) (NQ-N) M cc rfl rfl w3.heap.size N L1 5 HR5.o X2 ?c1 ?c2 ?c3 ?c4 w3.heap.size w3 HB5.o (qA _) ?_)
    case c1=>rw[Hy.o];first|(have:=HNQ.o;show q=min M (NQ-N);omega)|(rw[Nat.min_eq_right (qM _)])
    case c2=>first|exact fun h=>⟨rfl,HS2.o w5 Qu.o h⟩ | exact fun h=>HS2.o w5 Qu.o h | exact fun h=>absurd h (by rw[Hy.o];exact Nat.lt_irrefl 0)
    case c3=>rw[Hy.o,HL1.o];have:=HNQ.o;omega
    case c4=>rw[HX2.o];exact aI5
    intro w6 hr6 hb6;have HR6:=qH (show w6.heap[w3.heap.size]?=some (.cells (X1++X2).toArray 5 (0,0)) by rw[hr6.out,HSP.o]);have HB6:=qH hb6;clear hr6 hb6 HS2 HR5;clear c0 c1 c2 c3;obtain⟨c0,c1,c2,c3⟩:=C9 ((HB6.o.block _ qO).trans X1'.o);obtain⟨d0,d1,d2,d3⟩:=C9 ((HB6.o.block _ qO).trans X2'.o);obtain⟨f0,f1,f2,f3⟩:=ab5 ((HB6.o.block _ qO).trans X1'.o);obtain⟨g0,g1,g2,g3⟩:=ab5 ((HB6.o.block _ qO).trans X2'.o);clear X1' X2';go_wp2_with fail;(try simp only[Exit.inBlock,Exit.then])
    refine qx (v:=.tuple #[.agg #[.slice (some ⟨w3.heap.size,0,none⟩) NQ NQ,.int .i64 room,.bool cl,.bool false],.int .i64 ((q:Nat):Int),.int .i64 0]) ?_ rfl ?_
    . rw[j9 rfl];go_simp
    . rw[HZ.o];have hlen:(bs++List.take q cs).length=NQ:=by rw[qI,qX,<- HN.o,<- HM.o];have:=HNQ.o;omega
      refine⟨some ⟨w3.heap.size,0,none⟩,NQ,?_,?_,?_⟩
      . unfold M8;simp only;rw[hlen]
      . refine PB.fromP (w1:=w3) ?_ HB3.o.size;repeat (first|refine PB.setP ?_ qO _ | exact HPB.o w6 HR6.o)
      . have hbw:Bq w w6:=HB3.o.trans (HB6.o.mono HB3.o.size);repeat (first|refine Below.setCell ?_ (by simp) _ | exact hbw)
 .
  obtain rfl:=HB.o h0;obtain⟨d0,d1,d2,d3⟩:=C9 X2.o;obtain⟨g0,g1,g2,g3⟩:=ab5 X2.o;clear HK HB HL HG X1 X2 HF HI;go_wp2_with fail;(try simp only[Exit.inBlock,Exit.then])
  refine qx (v:=.tuple #[.agg #[.slice none 0 0,.int .i64 0,.bool false,.bool false],.int .i64 0,.int .i64 L]) ?_ rfl (bd1 rfl ?_)
  . rw[j9 rfl];go_simp
  . repeat (first|refine Below.setCell ?_ (by simp) _ | exact HB1.o)
open Go.Maps
variable {G:World->qW->Prop}
theorem aa9{M:SMach}{q:Nat}(h:M.pipes[q]?=some x):M.pipe q=x:=by unfold SMach.pipe;rw[h];rfl
theorem RMem.formX{w:World}{D r:Nat}{O:qW}{A:World->qW->Prop}(h:RMem w D r O A d)(h0:0<d.M.pipes.length):∃g c,d.vX=.slice (some ⟨g,0,none⟩) d.M.pipes.length c/\d.M.pipes.length<=c/\c<=9223372036854775807/\O g=some .pipes:=by obtain⟨g,c,s,h1,h2,h3,h4,h5,_⟩:=h.pipeAt (gEl h0);exact⟨g,c,h1,h2,h3,h5⟩
theorem RMem.atX{w:World}{D r:Nat}{O:qW}{A:World->qW->Prop}(h:RMem w D r O A d){g c q:Nat}(hv:d.vX=.slice (some ⟨g,0,none⟩) d.M.pipes.length c)(hx:d.M.pipes[q]?=some x):
 ∃s,d.X[q]?=some s/\ROf w O (.pipe q) s x.b/\w.cell? ⟨g,q*4,none⟩=some (sl x.b s)/\w.cell? ⟨g,q*4+1,none⟩=some (.int .i64 x.room)/\w.cell? ⟨g,q*4+2,none⟩=some (.bool x.closed)/\w.cell? ⟨g,q*4+3,none⟩=some (.bool x.shut)/\(∀j,w.frozen? ⟨g,j,none⟩=false)/\O g=some .pipes/\g<w.heap.size:=by obtain⟨g',c',s,h1,h2,h3,h4,h5,h6,h7,h8⟩:=h.pipeAt hx;rw[hv]at h1;injection h1 with e1;injection e1 with e1;injection e1 with e1;subst e1;exact⟨s,h6,h7,h8.1,h8.2.1,h8.2.2.1,h8.2.2.2.1,h8.2.2.2.2,h5,h4⟩
theorem Shape.pipes0{M:SMach}(hS:Shape M):0<M.pipes.length:=by rw[hS.xlen];obtain⟨nl,po,hnl,_,hi⟩:=hS.g.last;have:=Z3 hnl (j:=0) (by rw[hi];simp);omega
theorem o6.drew{w:World}{D r:Nat}{M:SMach}(h:o6 G w D r M):o6 G w.drew D r M:=by obtain⟨O,d,h1,h2⟩:=h;exact⟨O,d,RMem.below h1 ((Below.refl _ w).drew),h2⟩
def addO(O:qW)(w w':World)(o:Own)(k:Nat):Option Own:=if w.heap.size<=k/\k<w'.heap.size then some o else O k
theorem RMem.fresh{w w':World}{D r:Nat}{O:qW}{A:World->qW->Prop}(h:RMem w D r O A d)(hb:Bq w w')(o:Own):RMem w' D r (addO O w w' o) A d:=by
 refine h.grow hb (fun k hk=>by unfold addO;rw[qB qO]) (fun g o' hg hge=>?_);unfold addO at hg;by_cases e:w.heap.size<=g/\g<w'.heap.size
 . exact e.2
 . rw[qB e]at hg;exact absurd (h.lo g o' hg).2 qO
theorem aV9{w w':World}{O:qW}{o:Own}{ar:Option Addr}{cr:Nat}(h:PB w w' ar cr b):ROf w' (addO O w w' o) o (ar,cr) b:=by
 refine⟨h.1,h.2.2,fun h0 a ha=>?_⟩;have h1:=h.2.1 a ha;have h2:a.block<w'.heap.size:=by
  obtain⟨_,ao,cap,e,_,_,h4⟩:=h.1;obtain⟨b',off,e2,hc⟩:=h4 (fun e=>h0 (qz.1 e));injection e with e1;rw[show ar=some a from ha]at e1;rw[<- e1]at e2;injection e2 with e2;subst e2;have hl:0<(b.map U).length:=by rw[qS];exact xj.2 h0
  exact bLt w' _ (hc 0 _ (gEl hl))
 unfold addO;rw[qF ⟨h1,h2⟩]
theorem bI2(D r:Nat)(O:qW)(d:RD)(i:Nat)(n:SNode)(p:SProc)(w:World)(h:RunM G w D r O d)(hS:Shape d.M)(hn:d.M.ns[i]?=some n)(hp:d.M.ps[i]?=some p):
 Calls prog 61 #[.pointer (some ⟨r,0,none⟩),.int .i64 i] w fun e w'=>e=.returned (.int .i64 (E2 d.M i p 0 p.out).2)/\o6 G w' D r (E2 d.M i p 0 p.out).1/\Below D w w':=by
 have hg:=hS.g;have hF:=hS.proc i n p hn hp;obtain⟨gP,cP,s,hvP,Db,Dw,hgP,hOP,hs,p0,p1,p2,p3,p4,hfP,hGo,hOo,hgl,hol⟩:=h.procAt hp;obtain⟨⟨ao,co,hov,Ej,Bn⟩,hne⟩:=g8 hOo;have hx0:=Shape.pipes0 hS;obtain⟨gX,cX,hvX,Fz,Fo,hOX⟩:=h.formX hx0;have hil:i<d.M.ps.length:=(gSm hp).1;obtain⟨b0,b1,b2,b3,b4,b5,b6⟩:=K9 h.box.1;rw[hvP]at b3;rw[hov]at p2;have Ti:co<=9223372036854775807:=by unfold maxLen at Bn;exact Bn
 have HH:Hid (RunM G w D r O d):=h;have HS:=qH hS;have HN:=qH hn;have HP:=qH hp;have HSl:=qH hs;have HVX:=qH hvX;have HCX:Hid (d.M.pipes.length<=cX/\cX<=9223372036854775807):=⟨Fz,Fo⟩;have HOV:=qH hov;have HF:=qH hF;obtain⟨NL,hNL⟩:=qE p.out.length;have HNL:=qH hNL;obtain⟨NP,hNP⟩:=qE d.M.ps.length;rw[<- hNL]at p2 Ej;rw[<- hNP]at b3 hil Db;obtain⟨RES,Aj⟩:=qE (E2 d.M i p 0 p.out);rw[<- Aj];have Bd:=qH (show RES=E2 d.M i p 0 (p.out.drop 0) by rw[Aj];rfl);clear h hS hn hp hs hvX Fz Fo hov hF hNL hNP hg hgP hOP p0 p1 p3 p4 hfP hGo hOo hgl hol hne Bn b0 b1 b2 b4 b5 b6 hx0 hvP Aj hOX;go_enter func61,ntmps61;go_wp2_with fail;go_loopw [23] (fun z wr=>∃k:Nat,k<=NL/\z=.int .i64 k/\Hid (Bq w wr)/\Hid (RES=E2 d.M i p k (p.out.drop k))) (fun z _=>NL-(intOf z).toNat)
 case atStart=>exact⟨0,qM _,rfl,Below.refl _ _,Bd⟩
 case round=>
  obtain⟨k,hk,rfl,Aa,Js⟩:=hrel;clear Bd;by_cases hlt:k<NL
  .
   obtain⟨b,hb⟩:∃b,p.out[k]?=some b:=⟨_,gEl (by have:=HNL.o;omega)⟩;have HBb:=qH hb;have hR:=RMem.below HH.o Aa.o;have HRr:Hid (RunM G wr D r O d):=hR;obtain⟨gO,cO,a,eO,Us,Yc,hgO,hOO,ha,hSa,hcO,hfO⟩:=RMem.outAt hR HP.o HSl.o hb;have HA:=qH ha;have HSA:=qH hSa;rw[HOV.o]at eO;injection eO with eO1 eO2 eO3;subst eO1 eO3;have Yd:Hid (s.ov=.slice (some ⟨gO,0,none⟩) p.out.length co):=HOV.o;have HOO:=qH hOO;have hkn:(k:Int)<nouts n:=by have:=HF.o.olen;have:=HNL.o;omega
   obtain⟨q,hq⟩:=qE (E9 d.M.ns ((i:Int),(k:Int)));obtain⟨r',j',n',hn',hj',_,Ba,hql⟩:=HS.o.g.reader HN.o hkn;have hqx:q<d.M.pipes.length:=by rw[hq,HS.o.xlen,Ba];exact hql
   have HPO:Hid _:=aV3 D r O d i k q gX cX n wr hR HS.o.g HN.o hkn HS.o.xlen hq HVX.o HCX.o;obtain⟨x,hx⟩:∃x,d.M.pipes[q]?=some x:=⟨_,gEl hqx⟩;have HX:=qH hx;have HQ:=qH hq;have Tj:RES=if 0<(pwrite x b).2.1 then ((d.M.setX q (pwrite x b).1).setP i (p.setOut k (b.drop (pwrite x b).2.1)),0) else E2 d.M i p (k+1) (p.out.drop (k+1)):=by
    have hdr:p.out.drop k=b::p.out.drop (k+1):=by rw[qt (gSm hb).1];congr 1;rw[gEl (gSm hb).1]at hb;injection hb
    rw[Js.o,hdr,E2,<- hq,aa9 hx]
   have Hj:=qH Tj;have HPG:Hid (0<(pwrite x b).2.1->(pwrite x b).2.1<=b.length):=(show 0<(pwrite x b).2.1->(pwrite x b).2.1<=b.length from fun h0=>(am6 (HS.o.pipe x (mGt hx)) h0).2.1);have hbl:=t8 hSa.reads;clear hb hR ha hSa hOO hq hn' hj' Ba hql hx Js Tj hqx hkn;unfold sl at hcO;obtain⟨BL,hBL⟩:=qE b.length;have HBL:=qH hBL;obtain⟨aa,ca⟩:=a;simp only at hcO hbl;rw[<- hBL]at hcO hbl;clear hBL;go_wp2_with fail;refine qD HPO.o ?_;rintro e w2⟨rfl,hb2⟩;have hR2:=RMem.below HRr.o hb2;have HR2:Hid (RunM G w2 D r O d):=hR2;obtain⟨t,ht,hRt,x0,x1,x2,x3,hfX,hOX,hgX⟩:=RMem.atX hR2 HVX.o HX.o;have HT:=qH ht;have HRT:=qH hRt;have HB2:=qT Aa hb2;have HB2':=qH hb2;have Nu:Hid (SOf w2 O (.out i k) (aa,ca) b):=SOf.keep HSA.o (fun k' hk'=>hb2.block k' (HRr.o.lo k' _ hk').2) (fun _ _=>rfl);have Iw:=qC hb2 hcO;have HWR:Hid _:=bT1 t.1 aa t.2 ca x b w2 hRt.1 Nu.o.reads;have HOX:=qH hOX;unfold M8 at HWR;unfold sl at x0;rw[<- HBL.o]at HWR;clear hb2 hR2 ht hRt HPO hcO hOX;generalize x.b.length=XL,x.room=xr,x.closed=xc,x.shut=xs at *;obtain⟨ta,tc⟩:=t;simp only at x0 HWR;go_wp2_with fail;refine qD HWR.o ?_;rintro e w3⟨ar,cr,rfl,hPB,hb3⟩;obtain⟨Z,hZ⟩:=qE (pwrite x b);rw[<- hZ]at hPB Hj HPG ⊢;obtain⟨X',cnt,err⟩:=Z;obtain⟨xb',xr',xc',xs'⟩:=X';have HPB:=qH hPB;have HB3:=qH hb3;have Ye:=qC hb3 Iw;have g3:gO<w3.heap.size:=bLt w3 _ Ye;simp only at Hj HPG;clear hZ hPB HWR;unfold M8;simp only;generalize Qv:xb'.length=XL';by_cases Gw:0<cnt
   .
    have hcb:=HPG.o Gw;have HR9:=qH (show RES=((d.M.setX q ⟨xb',xr',xc',xs'⟩).setP i (p.setOut k (b.drop cnt)),0) by rw[Hj.o,qF Gw]);rw[<- HBL.o]at hcb;clear Hj HPG;have Tm:(0:Int)<(cnt:Int):=qO;have hR3:=RMem.fresh HR2.o HB3.o (.pipe q);have Ix:=aV9 (O:=O) (o:=.pipe q) HPB.o;have hR4:=RMem.below hR3 (boxE (w:=w3) (o:=.cells #[.slice ar XL' cr,.int .i64 xr',.bool xc',.bool xs'] 61));obtain⟨W4,hW4⟩:=qE (w3.alloc (.cells #[.slice ar XL' cr,.int .i64 xr',.bool xc',.bool xs'] 61));have Ak:W4.heap[w3.heap.size]?=some (.cells #[.slice ar XL' cr,.int .i64 xr',.bool xc',.bool xs'] 61 (0,0)):=by rw[hW4];exact qJ _ _
    have Ek:Bq w3 W4:=by rw[hW4];exact boxE
    rw[<- hW4]at hR4;have hBD:Below D w W4:=(Aa.o.mono HH.o.le).trans ((HB2'.o.mono (by have:=HRr.o.le;exact this)).trans ((HB3.o.mono (by have:=HR2.o.le;exact this)).trans (Ek.mono (by have:=hR3.le;exact this))));have Fe:ROf W4 (addO O w2 w3 (.pipe q)) (.pipe q) (ar,cr) xb':=Ix.keep (fun k' hk'=>Ek.block k' (hR3.lo k' _ hk').2) (fun _ _ _=>rfl);obtain⟨t4,ht4,_,y0,y1,y2,y3,gfX,gOX,gX4⟩:=RMem.atX hR4 HVX.o HX.o;obtain⟨gO4,cO4,a4,eO4,_,_,gO5,oO4,ha4,Jt,z0,zf⟩:=RMem.outAt hR4 HP.o HSl.o HBb.o;rw[HA.o]at ha4;injection ha4 with ha4;subst ha4;rw[Yd.o]at eO4;injection eO4 with eO4;injection eO4 with eO4;injection eO4 with eO4;subst eO4;obtain⟨m0,m1,m2,m3⟩:=C9 Ak;rcases id Jt with⟨Dt,hbn⟩|⟨g1,off1,cur1,hs1,ho1,hg1,hl1,hl2,hl3,hl4⟩
    . exfalso;rw[hbn]at HBL;have:=HBL.o;simp at this;omega
    .
     simp only at hs1 hl1 hl2 hl3;subst hs1;have HR4:Hid _:=hR4;have Yf:Hid _:=Fe;have Yg:Hid _:=Jt;have HBD:=qH hBD;have Ut:Hid _:=gOX;have Uu:Hid _:=oO4;have Qw:ca<=9223372036854775807:=by unfold maxLen at hl2;exact hl2
     rw[<- HBL.o]at hl1
     have Da:∀(s':Sl)(v:Value),v=sl (b.drop cnt) s'->SOf W4 (addO O w2 w3 (.pipe q)) (.out i k) s' (b.drop cnt) ->
      o6 G (((((W4.setCell ⟨gX,q*4,none⟩ (.slice ar XL' cr)).setCell ⟨gX,q*4+1,none⟩ (.int .i64 xr')).setCell ⟨gX,q*4+2,none⟩ (.bool xc')).setCell ⟨gX,q*4+3,none⟩ (.bool xs')).setCell ⟨gO,k,none⟩ v).drew D r RES.1 /\
      Below D w (((((W4.setCell ⟨gX,q*4,none⟩ (.slice ar XL' cr)).setCell ⟨gX,q*4+1,none⟩ (.int .i64 xr')).setCell ⟨gX,q*4+2,none⟩ (.bool xc')).setCell ⟨gX,q*4+3,none⟩ (.bool xs')).setCell ⟨gO,k,none⟩ v).drew:=by
      intro s' v hv hs'
      subst hv
      have hDX:D<=gX:=(HR4.o.lo _ _ Ut.o).1
      have hDO:D<=gO:=(HR4.o.lo _ _ Uu.o).1
      have e0:(Value.slice ar XL' cr)=sl xb' (ar,cr):=by unfold sl;rw[Qv]
      rw[e0]
      have k1:=RMem.setPipe HR4.o (x':=⟨xb',xr',xc',xs'⟩) HX.o HVX.o Ut.o Yf.o
      have hs9:=SOf.keep hs' (w':=((((W4.setCell ⟨gX,q*4,none⟩ (sl xb' (ar,cr))).setCell ⟨gX,q*4+1,none⟩ (.int .i64 xr')).setCell ⟨gX,q*4+2,none⟩ (.bool xc')).setCell ⟨gX,q*4+3,none⟩ (.bool xs'))) (O':=addO O w2 w3 (.pipe q)) (fun k' hk'=>by
       have hne:k'≠gX:=fun e=>by subst e;rw[Ut.o]at hk';cases hk'
       rw[Below.heap_setCell _ _ _ _ hne,Below.heap_setCell _ _ _ _ hne,Below.heap_setCell _ _ _ _ hne,Below.heap_setCell _ _ _ _ hne]) (fun _ _=>rfl)
      have k2:=RMem.setOut k1 HP.o HSl.o HBb.o Yd.o Uu.o hs9
      refine⟨o6.drew ⟨addO O w2 w3 (.pipe q),(d.setPipe q ⟨xb',xr',xc',xs'⟩ (ar,cr)).setProc i (p.setOut k (b.drop cnt)) (s.outSet k s'),k2,?_⟩,(((((HBD.o.setCell hDX _).setCell hDX _).setCell hDX _).setCell hDX _).setCell hDO _).drew⟩
      rw[HR9.o];rfl
     have Ao:Hid _:=Da;clear Da;have HRZ:=qH (show RES.2=0 by rw[HR9.o]);have Uw:gX≠gO:=fun e=>by rw[e,Uu.o]at gOX;cases gOX
     have fX0:=gfX (q*4);have fX1:=gfX (q*4+1);have fX2:=gfX (q*4+2);have fX3:=gfX (q*4+3);have fO:=zf k;unfold sl at y0 z0;rw[<- HBL.o]at z0;clear hR4 Fe Jt hBD gOX oO4 hR3 Ix ht4 gfX zf hg1 hl3 hl4 hl2 Ak Ek HR9 x0 x1 x2 x3 hfX Iw Ye p2 b3;generalize x.b.length=XL0,x.room=xr0,x.closed=xc0,x.shut=xs0 at *;by_cases hce:ca=cnt
     . subst hce;have HSO:Hid (SOf W4 (addO O w2 w3 (.pipe q)) (.out i k) (some ⟨g1,off1,none⟩,0) (b.drop ca)):=SOf.drop Yg.o rfl (by rw[<- HBL.o];omega) _ (.inr ⟨rfl,rfl⟩);have hBe:BL=ca:=qO;subst hBe;go_upto_region 8 with fail;rw[<- hW4];clear hW4;go_region
       all_goals go_wp2_with fail
       all_goals go_ret
       all_goals refine⟨by rw[HRZ.o];rfl,?_⟩
       all_goals exact Ao.o (some ⟨g1,off1,none⟩,0) _ (by unfold sl;rw[qy,<- HBL.o,xt]) HSO.o
     . have HSO:Hid (SOf W4 (addO O w2 w3 (.pipe q)) (.out i k) (some ⟨g1,off1+cnt,none⟩,ca-cnt) (b.drop cnt)):=SOf.drop Yg.o rfl (by rw[<- HBL.o];omega) _ (.inl rfl);go_upto_region 8 with fail;rw[<- hW4];clear hW4;go_region
       all_goals go_wp2_with fail
       all_goals go_ret
       all_goals refine⟨by rw[HRZ.o];rfl,?_⟩
       all_goals exact Ao.o (some ⟨g1,off1+cnt,none⟩,ca-cnt) _ (by unfold sl;rw[qy,<- HBL.o]) HSO.o
   . have HR9:=qH (show RES=E2 d.M i p (k+1) (p.out.drop (k+1)) by rw[Hj.o,qB Gw]);have Tm:¬(0:Int)<(cnt:Int):=qO;clear Hj HPG Gw;go_wp2_with fail;go_roundw
     case rel=>exact⟨k+1,qO,by go_num,(HB2.o.trans (HB3.o.mono HB2.o.size)).alloc (by have:=HB2.o.size;have:=HB3.o.size;omega) _,HR9⟩
     case measure=>simp[intOf];omega
  .
   have HR:=qH (show RES=(d.M,8) by
    rw[Js.o,qi (by have:=HNL.o;omega)]
    rfl)
   clear Js;go_wp2_with fail;go_ret;rw[HR.o];exact⟨rfl,⟨O,d,RMem.below HH.o Aa.o,rfl⟩,Aa.o.mono HH.o.le⟩
end Go.Proofs.YtmejdflmcikkdaaGreatDoor
