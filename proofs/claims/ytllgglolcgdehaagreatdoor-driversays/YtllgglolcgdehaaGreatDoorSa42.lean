/- The law DriverSays, walked, and more. -/
import Derived.Test.YtllgglolcgdehaaGreatDoorSAb
import Derived.ProofKit
import Derived.OpenShut
import Derived.SliceStrings
import Derived.Deep.SlicePairs
import Derived.Test.YtllgglolcgdehaaGreatDoorSa16
import Derived.Test.YtllgglolcgdehaaGreatDoorSa41
set_option linter.all false
set_option maxRecDepth 100000
set_option maxHeartbeats 16000000
namespace Go.Proofs.YtllgglolcgdehaaGreatDoor
open Go.RowKit Go.Gs Tryz
theorem cp0(w:World)(o1 o2 o3 o4:Obj):Bq w ((((w.alloc o1).alloc o2).alloc o3).alloc o4)/\((((w.alloc o1).alloc o2).alloc o3).alloc o4).heap[w.heap.size]? = some o1/\((((w.alloc o1).alloc o2).alloc o3).alloc o4).heap[w.heap.size+1]? = some o2/\((((w.alloc o1).alloc o2).alloc o3).alloc o4).heap[w.heap.size+1+1]? = some o3/\((((w.alloc o1).alloc o2).alloc o3).alloc o4).heap[w.heap.size+1+1+1]? = some o4:=
 ⟨Z7 [o1,o2,o3,o4] w,G5 [o1,o2,o3,o4] w 0 _ rfl,G5 [o1,o2,o3,o4] w 1 _ rfl,G5 [o1,o2,o3,o4] w 2 _ rfl,G5 [o1,o2,o3,o4] w 3 _ rfl⟩
theorem aV5(l:SLine)(W room:Int)(fs:List SFile)(ls:List SLine)(pk:List Int)(af ad ao al aq:Option Addr)(cf cd cap cl cq:Nat)(w:World)(hf:Reads w (.slice af l.fr.length cf) l.fr.length (l.fr.map S))(hd:H9 w (.slice ad l.cs.length cd) l.cs)(Ad:M3 l)(hwf:WfL l)(hfs:j6 w (.slice ao fs.length cap) fs)(hff:∀f∈fs,M9 f)(hl:I0 w (.slice al ls.length cl) ls)(hfl:∀x∈ls,M3 x)(hwl:∀x∈ls,WfL x)(hq:Reads w (.slice aq pk.length cq) pk.length (Zs pk))(hE:D6 w)(hsh:w.ShapedOpen prog):
 Calls prog 10 #[.slice ao fs.length cap,.slice al ls.length cl,.agg #[.slice af l.fr.length cf,.slice ad l.cs.length cd,.string ⟨l.tu.toArray⟩],.int .i64 W,.int .i64 room,.slice aq pk.length cq] w fun e w'=>e=.returned (.bool true)/\Bq w w':=by
 haveI:DecidableEq SFile:=fun a b=>Classical.propDecidable _;have en:∀args w,(callFunc 46 args).run prog w=.ok (.enter 46 args) w:=enters_of Tryz.func46 (by kernel_rfl) rfl;obtain⟨P,hP⟩:=qE pk.length;have HP:=qH hP;have hPm:P<=9223372036854775807:=by have:=bd0 hq;have h2:=hq.shape;obtain⟨_,_,e,k1,k2⟩:=h2;unfold maxLen at k2;omega
 have HLI:=qH (show ∀V,Bq w V->Calls prog 42 #[.slice ao fs.length cap,.agg #[.slice af l.fr.length cf,.slice ad l.cs.length cd,.string ⟨l.tu.toArray⟩],.int .i64 W,.int .i64 room,.slice aq P cq] V fun e w'=>ak4 V (q9 W room P fs l) e w' from fun V hb=>by rw[hP];exact bw5 l W room fs pk af ad ao aq cf cd cap cq V (hf.below hb) (hd.below hb) Ad (hfs.below hb) hff (hq.below hb) (hE.below hb));have HRU:=qH (show ∀V,Bq w V->Calls prog 43 #[.slice ao fs.length cap,.slice al ls.length cl,.int .i64 W,.int .i64 room,.slice aq P cq] V fun e w'=>ak3 V (K3 W room P fs ls) e w' from fun V hb=>by rw[hP];exact bK3 W room pk ao al aq cap cl cq fs ls V (hfs.below hb) hff (hl.below hb) hfl (hq.below hb) (hE.below hb));have HDV:=qH (show ∀V,Bq w V->Calls prog 44 #[] V fun e w'=>e=.returned (.bool true)/\Bq V w' from fun V hb=>bw8 V (hE.below hb))
 have HCF:=qH (show ∀V,Bq w V->Calls prog 21 #[.slice ao fs.length cap] V fun e w'=>e=.returned (.int .i64 (fchk fs))/\Bq V w' from fun V hb=>ao5 ao cap fs V (hfs.below hb) hff);have HCS:=qH (show ∀V,Bq w V->Calls prog 51 #[.slice al ls.length cl] V fun e w'=>e=.returned (.int .i64 (schk ls))/\Bq V w' from fun V hb=>bD3 al cl ls V (hl.below hb) hfl hwl)
 have HMD:Hid (∀(V:World)(b9 b10 b11 b17:Nat),Bq w V->V.cell? ⟨b9,0,none⟩=some (.int .i64 W)->V.cell? ⟨b10,0,none⟩=some (.int .i64 room)->V.cell? ⟨b11,0,none⟩=some (.slice aq P cq)->V.cell? ⟨b17,0,none⟩=some (.func (.func 45) #[] #[.pointer (some ⟨b9,0,none⟩),.pointer (some ⟨b10,0,none⟩),.pointer (some ⟨b11,0,none⟩)])->∀(x:SLine)(cur:List SFile)(bf bd bo:Option Addr)(ef ed eo:Nat),Reads V (.slice bf x.fr.length ef) x.fr.length (x.fr.map S)->H9 V (.slice bd x.cs.length ed) x.cs->M3 x->WfL x->j6 V (.slice bo cur.length eo) cur->(∀f∈cur,M9 f)->Calls prog 46 #[.slice bo cur.length eo,.agg #[.slice bf x.fr.length ef,.slice bd x.cs.length ed,.string ⟨x.tu.toArray⟩],.pointer (some ⟨b17,0,none⟩)] V fun e w'=>ak7 V (q9 W room P cur x) e w'):=(show ∀(V:World)(b9 b10 b11 b17:Nat),_ from fun V b9 b10 b11 b17 hb h9 h10 h11 h17 x cur bf bd bo ef ed eo k1 k2 k3 k4 k5 k6=>bQ9 x cur W room bf bd bo aq ef ed eo cq P b9 b10 b11 b17 V k1 k2 k3 k4 k5 k6 h9 h10 h11 hPm h17 (S7 hsh hb) (hE.below hb).1)
 have HX:Hid (Reads w (.slice af l.fr.length cf) l.fr.length (l.fr.map S)/\H9 w (.slice ad l.cs.length cd) l.cs/\M3 l/\WfL l/\j6 w (.slice ao fs.length cap) fs/\∀f∈fs,M9 f):=⟨hf,hd,Ad,hwf,hfs,hff⟩;have HL:=qH hl;have HFL:=qH (show ∀x∈ls,M3 x/\WfL x from fun x hx=>⟨hfl x hx,hwl x hx⟩);have hle:=aD8 hl;obtain⟨M,hM⟩:=qE ls.length;have HM:=qH hM;obtain⟨N,hN⟩:=qE fs.length;have HN:=qH hN;obtain⟨NF,hNF⟩:=qE l.fr.length;obtain⟨ND,hND⟩:=qE l.cs.length;obtain⟨tx,htx⟩:=qE (⟨l.tu.toArray⟩:ByteArray)
 have HMX:Hid (∀(V:World)(b9 b10 b11 b17:Nat),Bq w V->V.cell? ⟨b9,0,none⟩=some (.int .i64 W)->V.cell? ⟨b10,0,none⟩=some (.int .i64 room)->V.cell? ⟨b11,0,none⟩=some (.slice aq P cq)->V.cell? ⟨b17,0,none⟩=some (.func (.func 45) #[] #[.pointer (some ⟨b9,0,none⟩),.pointer (some ⟨b10,0,none⟩),.pointer (some ⟨b11,0,none⟩)])->Calls prog 46 #[.slice ao N cap,.agg #[.slice af NF cf,.slice ad ND cd,.string tx],.pointer (some ⟨b17,0,none⟩)] V fun e w'=>ak7 V (q9 W room P fs l) e w'):=(show ∀(V:World)(b9 b10 b11 b17:Nat),_ from fun V b9 b10 b11 b17 hb h9 h10 h11 h17=>by
  rw[hN,hNF,hND,htx]
  exact HMD.out V b9 b10 b11 b17 hb h9 h10 h11 h17 l fs af ad ao cf cd cap (HX.out.1.below hb) (HX.out.2.1.below hb) HX.out.2.2.1 HX.out.2.2.2.1 (HX.out.2.2.2.2.1.below hb) HX.out.2.2.2.2.2)
 rw[<- hP];rw[<- hN,<- hNF,<- hND,<- htx]at HLI;rw[<- hN,<- hM]at HRU;rw[<- hN]at HCF;rw[<- hM]at HCS HL hle;rw[<- hN,<- hNF,<- hND,<- htx,<- hM];have HF0:=qH (show j6 w (.slice ao N cap) fs by rw[hN];exact hfs);obtain⟨W0,hW0⟩:=qE ((((w.alloc (.cells #[.slice af NF cf,.slice ad ND cd,.string tx] 56)).alloc (.cells #[.int .i64 W] 3)).alloc (.cells #[.int .i64 room] 3)).alloc (.cells #[.slice aq P cq] 45));obtain⟨B,hB⟩:=qE w.heap.size;have hA4:=cp0 w (.cells #[.slice af NF cf,.slice ad ND cd,.string tx] 56) (.cells #[.int .i64 W] 3) (.cells #[.int .i64 room] 3) (.cells #[.slice aq P cq] 45);rw[<- hW0]at hA4;obtain⟨hB0,q0,q1,q2,q3⟩:=hA4;rw[<- hB]at q0 q1 q2 q3
 have K0:=qH (show ∀V,Bq W0 V->Bq w V/\(V.cell? ⟨B,0,none⟩=some (.slice af NF cf)/\V.cell? ⟨B,1,none⟩=some (.slice ad ND cd)/\V.cell? ⟨B,2,none⟩=some (.string tx))/\V.cell? ⟨B+1,0,none⟩=some (.int .i64 W)/\V.cell? ⟨B+1+1,0,none⟩=some (.int .i64 room)/\V.cell? ⟨B+1+1+1,0,none⟩=some (.slice aq P cq) from fun V hV=>by
  have p0:=qK hV q0
  have p1:=qK hV q1
  have p2:=qK hV q2
  have p3:=qK hV q3
  exact⟨hB0.trans (hV.mono hB0.size),⟨qR p0 rfl,qR p0 rfl,qR p0 rfl⟩,qR p1 rfl,qR p2 rfl,qR p3 rfl⟩)
 obtain⟨DL,hDL⟩:=qE (q9 W room P fs l);obtain⟨DR,hDR⟩:=qE (K3 W room P fs ls);have HDR:=qH hDR;rw[<- hDL]at HLI HMX;rw[<- hDR]at HRU;obtain⟨db,de⟩:=DL;obtain⟨dl,df⟩:=DR;have hsf:=fun(a:Addr)(w:World)=>run_store prog w a (.func (.func 45) #[] #[.pointer (some ⟨B+1,0,none⟩),.pointer (some ⟨B+1+1,0,none⟩),.pointer (some ⟨B+1+1+1,0,none⟩)]) .plain rfl;clear hf hd Ad hwf hfs hff hl hfl hwl hq hE hsh hP hM hN hNF hND htx q0 q1 q2 q3 hB0 hDL hDR HX hPm;go_enter Tryz.func10,Tryz.ntmps10;go_upto_region 1 with fail;rw[<- hW0,<- hB];clear hW0 hB;obtain⟨g0,⟨x0,x1,x2⟩,x3,x4,x5⟩:=K0.out _ (qI _ _);have HLI0:Hid _:=HLI.out _ g0;clear HLI g0;go_wp2_with fail;refine qD HLI0.out ?_;rintro e w1⟨a1,c1,rfl,hr1,hb1⟩;simp only at hr1 ⊢;have B1:=qH hb1;have HR1:=qH hr1;obtain⟨g1,⟨y0,y1,y2⟩,y3,y4,y5⟩:=K0.out _ hb1;have HRU1:Hid _:=HRU.out _ g1;obtain⟨NB,hNB⟩:=qE db.length
 have HNB:=qH hNB;rw[<- hNB];clear HRU g1 hr1 hb1 HLI0 x0 x1 x2 x3 x4 x5 hNB;go_wp2_with fail;refine qD HRU1.out ?_;rintro e w2⟨a2,c2,rfl,hr2,hb2⟩;simp only at hr2 ⊢;have B2:=qT B1 hb2;have HR12:Hid (Reads w2 (.slice a1 db.length c1) db.length (db.map U)):=HR1.out.below hb2;have HF2:=qH hr2;obtain⟨g2,_,_,_,_⟩:=K0.out _ B2.out;have HDV2:Hid _:=HDV.out _ g2;obtain⟨NR,hNR⟩:=qE dl.length;have HNR:=qH hNR;rw[<- hNR];clear HDV g2 hr2 hb2 HRU1 HR1 B1 y0 y1 y2 y3 y4 y5 hNR;go_wp2_with fail;refine qD HDV2.out ?_;rintro e w3⟨rfl,hb3⟩;have B3:=qT B2 hb3;obtain⟨W4,hW4⟩:=qE (w3.alloc (.cells #[.func (.func 45) #[] #[.pointer (some ⟨B+1,0,none⟩),.pointer (some ⟨B+1+1,0,none⟩),.pointer (some ⟨B+1+1+1,0,none⟩)]] 96));obtain⟨BF,hBF⟩:=qE w3.heap.size;have hb4:Bq w3 W4:=by rw[hW4];exact i8
 have hB4:Bq W0 W4:=B3.out.trans (hb4.mono B3.out.size);have q4:W4.heap[BF]? = some (.cells #[.func (.func 45) #[] #[.pointer (some ⟨B+1,0,none⟩),.pointer (some ⟨B+1+1,0,none⟩),.pointer (some ⟨B+1+1+1,0,none⟩)]] 96 (0,0)):=by rw[hW4,hBF];exact qN _ _
 have hr4:=(HR12.out.below hb3).below hb4;have hf4:=(HF2.out.below hb3).below hb4
 have K4:=qH (show ∀V,Bq W4 V->Bq w V/\(V.cell? ⟨B,0,none⟩=some (.slice af NF cf)/\V.cell? ⟨B,1,none⟩=some (.slice ad ND cd)/\V.cell? ⟨B,2,none⟩=some (.string tx))/\(V.cell? ⟨B+1,0,none⟩=some (.int .i64 W)/\V.cell? ⟨B+1+1,0,none⟩=some (.int .i64 room)/\V.cell? ⟨B+1+1+1,0,none⟩=some (.slice aq P cq)/\V.cell? ⟨BF,0,none⟩=some (.func (.func 45) #[] #[.pointer (some ⟨B+1,0,none⟩),.pointer (some ⟨B+1+1,0,none⟩),.pointer (some ⟨B+1+1+1,0,none⟩)]))/\Reads V (.slice a1 db.length c1) db.length (db.map U)/\j6 V (.slice a2 dl.length c2) dl from fun V hV=>by
  obtain⟨k1,k2,k3,k4,k5⟩:=K0.out V (hB4.trans (hV.mono hB4.size))
  have p4:=qK hV q4
  exact⟨k1,k2,⟨k3,k4,k5,qR p4 rfl⟩,hr4.below hV,hf4.below hV⟩)
 clear HDV2 HR12 HF2 B2 B3 hb3 hb4 hB4 q4 hr4 hf4 K0;go_upto_region 6 with fail;rw[<- hW4,<- hBF];clear hW4 hBF hsf;obtain⟨g4,⟨x0,x1,x2⟩,⟨x3,x4,x5,x6⟩,_,_⟩:=K4.out _ (qI _ _);have HM4:Hid _:=HMX.out W4 (B+1) (B+1+1) (B+1+1+1) BF g4 x3 x4 x5 x6
 have HM5:=qH (show ∀V,Bq W4 V->∀(x:SLine)(cur:List SFile)(bf bd bo:Option Addr)(ef ed eo:Nat),Reads V (.slice bf x.fr.length ef) x.fr.length (x.fr.map S)->H9 V (.slice bd x.cs.length ed) x.cs->M3 x->WfL x->j6 V (.slice bo cur.length eo) cur->(∀f∈cur,M9 f)->Calls prog 46 #[.slice bo cur.length eo,.agg #[.slice bf x.fr.length ef,.slice bd x.cs.length ed,.string ⟨x.tu.toArray⟩],.pointer (some ⟨BF,0,none⟩)] V fun e w'=>ak7 V (q9 W room P cur x) e w' from fun V hV=>by
  obtain⟨k1,_,⟨k3,k4,k5,k6⟩,_,_⟩:=K4.out V hV
  exact HMD.out V (B+1) (B+1+1) (B+1+1+1) BF k1 k3 k4 k5 k6)
 clear g4 x3 x4 x5 x6 HMX HMD;go_wp2_with fail;refine qD HM4.out ?_;rintro e w5⟨a5,c5,rfl,hr5,hb5⟩;simp only at hr5 ⊢;have B5:=qH hb5;obtain⟨g5,_,_,hr15,_⟩:=K4.out _ hb5
 have HEQ:=qH (show Calls prog 30 #[.slice a1 NB c1,.slice a5 NB c5] w5 fun e w'=>e=.returned (.bool true)/\Bq w5 w' by
  have:=aZ2 a1 a5 c1 c5 db db w5 hr15 hr5
  rw[<- HNB.out]at this
  simpa using this)
 rw[<- HNB.out];clear g5 hr15 hr5 hb5 HM4 x0 x1 x2;go_wp2_with fail;refine qD HEQ.out ?_;rintro e w6⟨rfl,hb6⟩;have B6:=qT B5 hb6;obtain⟨g6,_,_,_,_⟩:=K4.out _ B6.out;have HCF6:Hid _:=HCF.out _ g6;clear g6 hb6 HEQ B5 HCF;go_wp2_with fail;refine qD HCF6.out ?_;rintro e w7⟨rfl,hb7⟩;have B7:=qT B6 hb7;clear hb7 HCF6 B6;obtain⟨fc,hfc⟩:=qE (fchk fs);have HFC:=qH hfc;rw[<- hfc];clear hfc;have Wj:Hid _:=HCS.out _ (K4.out _ B7.out).1;by_cases h0:fc=0;subst h0;go_wp2_with fail;refine qD Wj.out ?_;rintro e wc⟨rfl,hb8⟩;have B8:=qT B7 hb8;have hz0:=qH (show schk ls=0->fchk fs=0/\K3 W room P fs ls=P4 W room P fs ls from fun h=>⟨HFC.out.symm,bw7 HFC.out.symm h⟩);have hz1:=qH (show schk ls≠0->K3 W room P fs ls=([],schk ls) from fun h=>bd2 HFC.out.symm h);generalize schk ls=bad at *;clear hb8 Wj;go_wp2_with fail;rotate_left
 have hz0:=qH (show fc=0->fchk fs=0/\K3 W room P fs ls=P4 W room P fs ls from fun h=>absurd h h0);have hz1:=qH (show fc≠0->K3 W room P fs ls=([],fc) from fun h=>by rw[HFC.out];exact aI6 (by rw[<- HFC.out];exact h));have B8:Hid (Bq W4 w7):=B7.out;have h0b:(fc==0)=false:=by simpa using h0
 clear Wj;obtain⟨wc,hwc⟩:=qE w7;subst hwc;go_wp2_with fail;obtain⟨bad,Bj⟩:=qE fc;subst Bj;rw[h0b];clear h0 h0b;rotate_left
 all_goals
  have HF8:Hid (j6 wc (.slice ao N cap) fs):=HF0.out.below (K4.out _ B8.out).1;have HZ0:=qH hz0;clear B7 HFC HCS HF0 hz0;go_loopw [21,22,74] (fun bv fv i wr=>∃k:Nat,∃cur:List SFile,∃ac cc nc,∃bad:Int,k<=M/\i=.int .i64 k/\fv=.slice ac nc cc/\bv=.int .i64 bad/\Hid (nc=cur.length)/\Hid (j6 wr (.slice ac nc cc) cur)/\Hid (bad=0->fchk cur=0/\K3 W room P fs ls=P4 W room P cur (ls.drop k))/\Hid (bad≠0->K3 W room P fs ls=([],bad))/\Hid (Bq W4 wr)) (fun _ _ i _=>M-(intOf i).toNat)
  case atStart=>exact⟨0,fs,ao,cap,N,bad,qP _,rfl,rfl,rfl,HN,HF8,HZ0,hz1,B8⟩
  case round=>
   clear HF8 HZ0 hz1 B8;obtain⟨k,cur,ac,cc,nc,bad,hk,rfl,rfl,rfl,HNC,HRF,h0,h1,Aa⟩:=hrel;have HBW:Hid (Bq w wr):=(K4.out _ Aa.out).1;by_cases hlt:k<M
   .
    obtain⟨x,hx⟩:∃x,ls[k]? = some x:=⟨_,gEl (by have:=HM.out;omega)⟩;obtain⟨b,off,bf,ef,bd,ed,rfl,hc0,hc1,hc2,hr,hd⟩:=(I0.below HL.out HBW.out).at hx;have hfx:=HFL.out x (mGt hx);have HDP:Hid (ls.drop k=x::ls.drop (k+1)):=drop_at hx;by_cases Bj:bad=0
    .
     subst Bj;obtain⟨hri,hrl⟩:=h0.out rfl;have HRI:=qH hri;have HRL:=qH hrl
     have HMK:=qH (show ∀o,Calls prog 46 #[.slice ac nc cc,.agg #[.slice bf x.fr.length ef,.slice bd x.cs.length ed,.string ⟨x.tu.toArray⟩],.pointer (some ⟨BF,0,none⟩)] (wr.alloc o) fun e w'=>ak7 (wr.alloc o) (q9 W room P cur x) e w' from fun o=>by
      have:=HM5.out (wr.alloc o) (qT Aa i8).out x cur bf bd ac ef ed cc (hr.below i8) (hd.below i8) hfx.1 hfx.2 (by rw[<- HNC.out];exact HRF.out.below i8) (right_fits HRI.out)
      rw[<- HNC.out]at this
      exact this)
     have HPU:Hid _:=fun(V:World)(hb:Bq wr V)(ab:Option Addr)(cb:Nat)(hrb:Reads V (.slice ab (q9 W room P cur x).1.length cb) (q9 W room P cur x).1.length ((q9 W room P cur x).1.map U))=>bY4 ac ab cc cb cur x.tu (q9 W room P cur x).1 V (by rw[<- HNC.out];exact HRF.out.below hb) (G2 HRI.out).2 (G2 HRI.out).1 hrb hfx.1.2.2;rw[<- HNC.out]at HPU;obtain⟨le,Fo⟩:=qE ((q9 W room P cur x).2);have HLE:=qH Fo;generalize (⟨x.tu.toArray⟩:ByteArray)=tx' at *;generalize x.fr.length=NF' at *;generalize x.cs.length=ND' at *;clear hx hr hd hfx Fo h0 h1 hri hrl;go_wp2_with fail;refine qD (HMK.out _) ?_;rintro e w10⟨ab,cb,rfl,hrb,Is⟩;obtain⟨_,_,z2⟩:=aT0 Is;have HB9:Hid (Bq wr w10):=Below.trans (i8 (w:=wr)) (Is.mono (by simp));have Cd:Hid (Bq W4 w10):=Aa.out.trans (HB9.out.mono Aa.out.size);have HRB:Hid _:=hrb;rw[<- HLE.out]
     clear Is hrb HMK hc0 hc1 hc2;by_cases Gt:le=0
     . subst Gt;obtain⟨pe,hpe⟩:=qE ((putS cur x.tu (q9 W room P cur x).1).2);have HPE:=qH hpe;obtain⟨PN,hPN⟩:=qE ((q9 W room P cur x).1.length);have hP:=HPU.out w10 HB9.out ab cb HRB.out;rw[<- hPN]at hP ⊢;have HPP:Hid _:=hP;clear hP HPU hPN hpe HRB;go_wp2_with fail;refine qD HPP.out ?_;rintro e w11⟨ar,cr,rfl,Rx,Dw⟩;have Gu:=qT Cd Dw;have HR11:=qH Rx;rw[<- HPE.out];have HI0:=qH (show pe=0->fchk (putS cur x.tu (q9 W room P cur x).1).1=0/\K3 W room P fs ls=P4 W room P (putS cur x.tu (q9 W room P cur x).1).1 (ls.drop (k+1)) from fun h=>⟨aj7 HRI.out (HPE.out.symm.trans h),by rw[HRL.out,HDP.out,bp6 HLE.out.symm (HPE.out.symm.trans h)]⟩);have HI1:=qH (show pe≠0->K3 W room P fs ls=([],pe) from fun h=>by rw[HRL.out,HDP.out,aY9 HLE.out.symm (by rw[<- HPE.out];exact h),<- HPE.out])
       obtain⟨QN,hQN⟩:=qE ((putS cur x.tu (q9 W room P cur x).1).1.length);have HQN:=qH hQN;rw[<- hQN]at HR11 ⊢;clear Dw HPP Rx hQN z2;go_wp2_with fail;go_roundw
       case rel=>exact⟨k+1,_,_,_,_,_,by omega,by go_num,rfl,rfl,HQN,HR11,HI0,HI1,Gu⟩
       case measure=>simp[intOf];omega
     . have Fj:Hid (j6 w10 (.slice ac nc cc) cur):=HRF.out.below HB9.out;have HI0:=qH (show le=0->fchk cur=0/\K3 W room P fs ls=P4 W room P cur (ls.drop (k+1)) from fun h=>absurd h Gt);have HI1:=qH (show le≠0->K3 W room P fs ls=([],le) from fun h=>by rw[HRL.out,HDP.out,aO8 (by rw[<- HLE.out];exact Gt),<- HLE.out]);generalize (q9 W room P cur x).1.length=PN at *;clear HPU HRB z2;go_wp2_with fail;go_roundw
       case rel=>exact⟨k+1,cur,_,_,_,le,by omega,by go_num,rfl,rfl,HNC,Fj,HI0,HI1,Cd⟩
       case measure=>simp[intOf];omega
    . have hE2:=HDR.out.trans (h1.out Bj);injection hE2 with e1 e2;have hN0:NR=0:=by rw[HNR.out,e1];rfl
      have HBE:=qH (show ∀o,Bq w (wr.alloc o) from fun o=>HBW.out.trans (i8.mono HBW.out.size));subst e2 hN0;generalize (⟨x.tu.toArray⟩:ByteArray)=tx' at *;generalize x.fr.length=NF' at *;generalize x.cs.length=ND' at *;clear hx hr hd hfx h0 h1 HNR e1;go_wp2_with fail;go_ret;exact⟨rfl,HBE.out _⟩
   .
    by_cases Bj:bad=0
    .
     subst Bj;have hE2:=HDR.out.trans ((h0.out rfl).2.trans (show P4 W room P cur (ls.drop k)=(cur,0) by rw[qt (by have:=HM.out;omega)];rfl));injection hE2 with e1 e2
     have HSF:=qH (show Calls prog 34 #[.slice a2 NR c2,.slice ac nc cc] wr fun e w'=>e=.returned (.bool true)/\Bq wr w' by
      have:=aV4 a2 ac c2 cc dl cur wr (K4.out _ Aa.out).2.2.2.2 (by rw[<- HNC.out];exact HRF.out)
      rw[<- HNR.out,<- HNC.out,qd e1]at this
      exact this)
     subst e2;clear h0 h1 e1;go_wp2_with fail;refine qD HSF.out ?_;rintro e w12⟨rfl,Ek⟩;have Ld:=qT HBW Ek;clear Ek HSF;go_wp2_with fail;go_ret;exact⟨rfl,Ld.out⟩
    . have hE2:=HDR.out.trans (h1.out Bj);injection hE2 with e1 e2;have hN0:NR=0:=by rw[HNR.out,e1];rfl
      subst e2 hN0;clear h0 h1 HNR e1;go_wp2_with fail;go_ret;exact⟨rfl,HBW.out⟩
theorem aJ7(W:World)(hE:D6 W)(hsh:W.ShapedOpen prog)(ao:Option Addr)(cap:Nat)(fs:List SFile)(hfs:j6 W (.slice ao fs.length cap) fs)(hff:∀f∈fs,M9 f)(hz:ao=none->cap=0)(al:Option Addr)(cl:Nat)(ls:List SLine)(hl:I0 W (.slice al ls.length cl) ls)(hfl:∀x∈ls,M3 x)(hzl:al=none->cl=0)(hwl:∀x∈ls,WfL x)(l:SLine)(af ad:Option Addr)(cf cd:Nat)(hf:Reads W (.slice af l.fr.length cf) l.fr.length (l.fr.map S))(hd:H9 W (.slice ad l.cs.length cd) l.cs)(Ad:M3 l)(hzd:ad=none->cd=0)(hwf:WfL l)(wide:Int)(hwide:-9223372036854775808<=wide/\wide<=9223372036854775807)(room:Int)(Bh:-9223372036854775808<=room/\room<=9223372036854775807)(aq:Option Addr)(cq:Nat)(pk:List Int)(hq:Reads W (.slice aq pk.length cq) pk.length (pk.map (Value.int .i64)))(hpk:∀z∈pk,-9223372036854775808<=z/\z<=9223372036854775807):
 Calls prog 10 #[.slice ao fs.length cap,.slice al ls.length cl,.agg #[.slice af l.fr.length cf,.slice ad l.cs.length cd,.string ⟨l.tu.toArray⟩],.int .i64 wide,.int .i64 room,.slice aq pk.length cq] W fun e w'=>e=.returned (.bool true)/\Bq W w':=
 aV5 l wide room fs ls pk af ad ao al aq cf cd cap cl cq W hf hd Ad hwf hfs hff hl hfl hwl hq hE hsh
open Go.ChangeShapes Go.WideShapes Go.ChangeAt
variable {P:Program} {H:Type} {enc:TypeId × Value->H} {W:World} {base:Nat} {held:Bool} {fuel:Nat} {t e q:TypeId} {x:DataW H × List MemPlace}
theorem ad8{b off j:Nat}:(⟨b,off,none⟩:Addr).add j=⟨b,off+j,none⟩:=by unfold Addr.add;split <;> simp_all
theorem ab9{spare:Nat->Bool}{f0 f1 f2:Field}{cs:List Value}(ht:P.underlying t=some (.slice e))(he:P.underlying e=some (.struct #[f0,f1,f2]))
 (ce:P.cellsOf e=3) (o0:f0.offset=0) (o1:f1.offset=1) (o2:f2.offset=2) (c0:P.cellsOf f0.type=1) (c1:P.cellsOf f1.type=1) (c2:P.cellsOf f2.type=1)
 (h:DataW.trod enc P W base spare held fuel t cs=some x):
 cs=[.slice none 0 0] \/
 ∃(a:Addr)(len cap:Nat)(V:Nat->Value × Value × Value),cs=[.slice (some a) len cap]/\len<=cap/\cap<=maxLen /\
  ∀i,i<len->W.cell? (a.add (i*3))=some (V i).1/\W.cell? (a.add (i*3+1))=some (V i).2.1/\W.cell? (a.add (i*3+2))=some (V i).2.2 /\
   ∃n y0 y1 y2,DataW.trod enc P W base spare held n f0.type [(V i).1]=some y0/\DataW.trod enc P W base spare held n f1.type [(V i).2.1]=some y1/\DataW.trod enc P W base spare held n f2.type [(V i).2.2]=some y2:=by
 rcases Deep.open_slice ht h with⟨h0,_⟩|⟨a,len,cap,m,n,D,Pl,rfl,hb,hl,hm,hmm,rfl,hx⟩
 . exact Or.inl h0
 right;have hlm:len<=m:=by rw[hmm];split <;> omega
 have each:∀i,i<len->∃q:Value × Value × Value,W.cell? (a.add (i*3))=some q.1/\W.cell? (a.add (i*3+1))=some q.2.1/\W.cell? (a.add (i*3+2))=some q.2.2 /\
  ∃n y0 y1 y2,DataW.trod enc P W base spare held n f0.type [q.1]=some y0/\DataW.trod enc P W base spare held n f1.type [q.2.1]=some y1/\DataW.trod enc P W base spare held n f2.type [q.2.2]=some y2:=by
  intro i hi
  obtain⟨cs',h1,h2⟩:=hx i (by omega)
  rw[ce]at h1
  obtain⟨_,hlen,Ac⟩:=World.cells?_some h1
  obtain⟨xs,k,hk,hxy,_,hxl,hf⟩:=DataW.trod_struct he h2
  match xs,hxl,cs',hlen with
  | [y0,y1,y2],_,[v0,v1,v2],_=>
   have g0:=hf 0 f0 rfl
   have g1:=hf 1 f1 rfl
   have g2:=hf 2 f2 rfl
   simp[o0,o1,o2,c0,c1,c2]at g0 g1 g2
   have e0:=Ac 0 (by omega)
   have e1:=Ac 1 (by omega)
   have e2:=Ac 2 (by omega)
   rw[Deep.add_add]at e0 e1 e2
   exact⟨(v0,v1,v2),by simpa using e0,by simpa using e1,by simpa using e2,k,y0,y1,y2,g0,g1,g2⟩
 obtain⟨q,hq⟩:=Deep.choose_lt each;exact⟨a,len,cap,q,rfl,hl,hm,hq⟩
theorem aE5{α:Type}{len:Nat}{Y:Nat->α}{j:Nat}{p:α}(hj:((List.range len).map Y)[j]? = some p):j<len/\p=Y j:=by
 rw[qQ]at hj
 cases hr:(List.range len)[j]? with
 | none=>rw[hr]at hj;cases hj
 | some i=>
  rw[hr]at hj
  have h1:=(gSm hr).1
  rw[List.length_range]at h1
  rw[xq h1]at hr
  injection hr with hr
  simp only[qu,qW]at hj
  exact⟨h1,by rw[<- hj,<- hr]⟩
theorem aE6{w:World}{a:Addr}{k:Nat}{v:Value}(h:w.cell? (a.add k)=some v)(hk:k=0):a.spot=none:=by obtain⟨b,off,spot⟩:=a;subst hk;simpa[Addr.add]using World.cell?_spot h
theorem aB4(ht:P.underlying t=some (.slice e))(he:P.underlying e=some .string)(ce:P.cellsOf e=1){v:Value}
 (hf:DataW.trod enc P W base (fun _=>true) held fuel t [v]=some x):
 ∃fr:List (List UInt8),Reads W v fr.length (fr.map S)/\∀s∈fr,s.length<=9223372036854775807:=by
 rcases Deep.open_slice1 ht ce hf with⟨hcs,_⟩|⟨ad,len,cap,m,n,V,D,Pl,hcs,hb,hl,hm,hmm,hx,Ae⟩
 . simp at hcs;subst hcs;exact⟨[],⟨rfl,none,0,rfl,qB _,by simp,fun h=>absurd rfl h⟩,by simp⟩
 .
  simp at hcs;subst hcs;simp only[if_true]at hmm;subst hmm;have each:∀i,i<len->∃y:List UInt8,V i=S y/\y.length<=9223372036854775807:=by intro i hi;obtain⟨s,e2,_,hs⟩:=DataW.trod_string he (Ae i (by omega)).2;simp at e2;refine⟨s.data.toList,by rw[e2];rfl,?_⟩;unfold maxLen at hs;have:s.data.toList.length=s.size:=xY;omega
  obtain⟨Y,hY⟩:=Deep.choose_lt each;refine⟨(List.range len).map Y,⟨by simp,some ad,m,by simp,by simpa using hl,hm,fun h0=>?_⟩,fun s hs=>?_⟩
  .
   have h0':0<len:=by
    rcases za len with h | h
    . subst h;simp at h0
    . exact h
   have Br:=aE6 (Ae 0 (by omega)).1 rfl;obtain⟨b,off,spot⟩:=ad;simp only at Br;subst Br;refine⟨b,off,rfl,fun j u hu=>?_⟩;rw[xh]at hu;obtain⟨h1,h2⟩:=aE5 hu;have:=(Ae j (by omega)).1;rw[ad8]at this;rw[this,h2,Function.comp,(hY j h1).1]
  . obtain⟨i,hi,rfl⟩:=qg.1 hs;exact (hY i (xt.1 hi)).2
theorem bk7{f0 f1 f2:Field}(ht:P.underlying t=some (.slice e))(he:P.underlying e=some (.struct #[f0,f1,f2]))
 (ce:P.cellsOf e=3) (o0:f0.offset=0) (o1:f1.offset=1) (o2:f2.offset=2) (c0:P.cellsOf f0.type=1) (c1:P.cellsOf f1.type=1) (c2:P.cellsOf f2.type=1)
 (u0:P.underlying f0.type=some (.int .i64)) (u1:P.underlying f1.type=some .string) (u2:P.underlying f2.type=some (.int .i64)) {v:Value}
 (hf:DataW.trod enc P W base (fun _=>true) held fuel t [v]=some x):∃cs:List Cmd,H9 W v cs/\bZ0 cs/\∀n c,v=.slice none n c->c=0:=by
 rcases ab9 ht he ce o0 o1 o2 c0 c1 c2 hf with hcs | ⟨a,len,cap,V,hcs,hl,hm,Ae⟩
 . simp at hcs;subst hcs;exact⟨[],⟨none,0,rfl,qB _,by simp,fun h=>absurd rfl h⟩,(by intro c hc;cases hc),fun n c e=>by injection e with _ _ e;exact e.symm⟩
 .
  simp at hcs;subst hcs;have each:∀i,i<len->∃c:Cmd,V i=(.int .i64 c.kind,.string ⟨c.word.toArray⟩,.int .i64 c.n)/\c.word.length<=9223372036854775807:=by intro i hi;obtain⟨_,_,_,n,y0,y1,y2,g0,g1,g2⟩:=Ae i hi;obtain⟨k,e1,_,_⟩:=DataW.trod_int u0 g0;obtain⟨s,e2,_,hs⟩:=DataW.trod_string u1 g1;obtain⟨n,e3,_,_⟩:=DataW.trod_int u2 g2;simp at e1 e2 e3;refine⟨⟨k,s.data.toList,n⟩,by rw[<- e1,<- e3];exact Prod.ext rfl (Prod.ext e2 rfl),?_⟩;unfold maxLen at hs;have:s.data.toList.length=s.size:=xY;show s.data.toList.length<=_;omega
  haveI:Inhabited Cmd:=⟨⟨0,[],0⟩⟩;obtain⟨Y,hY⟩:=Deep.choose_lt each;refine⟨(List.range len).map Y,⟨some a,cap,by simp,by simpa using hl,hm,fun h0=>?_⟩,fun c hc=>?_,fun n c e=>by injection e with e;cases e⟩
  .
   have h0':0<len:=by
    rcases za len with h | h
    . subst h;simp at h0
    . exact h
   have Br:=aE6 (Ae 0 h0').1 rfl;obtain⟨b,off,spot⟩:=a;simp only at Br;subst Br;refine⟨b,off,rfl,fun j u hu=>?_⟩;obtain⟨h1,h2⟩:=aE5 hu;subst h2;obtain⟨b0,b1,b2,_⟩:=Ae j h1;rw[ad8,(hY j h1).1]at b0 b1 b2;exact⟨b0,b1,b2⟩
  . obtain⟨i,hi,rfl⟩:=qg.1 hc;exact (hY i (xt.1 hi)).2
theorem aB5{vf vd vt:Value}{n:Nat}{y0 y1 y2:DataW H × List MemPlace}(g0:DataW.trod enc prog W base (fun _=>true) held n 53 [vf]=some y0)(g1:DataW.trod enc prog W base (fun _=>true) held n 54 [vd]=some y1)(g2:DataW.trod enc prog W base (fun _=>true) held n 9 [vt]=some y2):
 ∃x:SLine,vt=.string ⟨x.tu.toArray⟩/\Reads W vf x.fr.length (x.fr.map S)/\H9 W vd x.cs/\M3 x/\∀n c,vd=.slice none n c->c=0:=by obtain⟨fr,r1,r2⟩:=aB4 underlying53 underlying9 (by kernel_rfl) g0;obtain⟨cs,r3,r4,r5⟩:=bk7 underlying54 underlying70 (by kernel_rfl) rfl rfl rfl (by kernel_rfl) (by kernel_rfl) (by kernel_rfl) underlying3 underlying9 underlying3 g1;obtain⟨s,e2,_,hs⟩:=DataW.trod_string underlying9 g2;simp at e2;refine⟨⟨fr,cs,s.data.toList⟩,e2,r1,r3,⟨r2,r4,?_⟩,r5⟩;unfold maxLen at hs;have:s.data.toList.length=s.size:=xY;show s.data.toList.length<=_;omega
end Go.Proofs.YtllgglolcgdehaaGreatDoor
namespace Go.Proofs.YtllgglolcgdehaaGreatDoor
open Go.RowKit Go.Gs Go.ChangeShapes Go.WideShapes Go.ChangeAt Tryz
variable {P:Program} {H:Type} {enc:TypeId × Value->H} {W:World} {base:Nat} {held:Bool} {fuel:Nat} {t e q:TypeId} {x:DataW H × List MemPlace}
theorem aT2{v:Value}(hf:DataW.trod enc prog W base (fun _=>true) held fuel 91 [v]=some x):
 ∃ls:List SLine,I0 W v ls/\(∀x∈ls,M3 x)/\∀n c,v=.slice none n c->c=0:=by
 rcases ab9 underlying91 underlying56 (by kernel_rfl) rfl rfl rfl (by kernel_rfl) (by kernel_rfl) (by kernel_rfl) hf with hcs | ⟨a,len,cap,V,hcs,hl,hm,Ae⟩
 . simp at hcs;subst hcs;exact⟨[],⟨none,0,rfl,qB _,by simp,fun h=>absurd rfl h⟩,(by intro c hc;cases hc),fun n c e=>by injection e with _ _ e;exact e.symm⟩
 .
  simp at hcs;subst hcs;have each:∀i,i<len->∃x:SLine,(V i).2.2=.string ⟨x.tu.toArray⟩/\Reads W (V i).1 x.fr.length (x.fr.map S)/\H9 W (V i).2.1 x.cs/\M3 x:=by intro i hi;obtain⟨_,_,_,n,y0,y1,y2,g0,g1,g2⟩:=Ae i hi;obtain⟨x,q1,q2,q3,q4,_⟩:=aB5 g0 g1 g2;exact⟨x,q1,q2,q3,q4⟩
  haveI:Inhabited SLine:=⟨⟨[],[],[]⟩⟩;obtain⟨Y,hY⟩:=Deep.choose_lt each;refine⟨(List.range len).map Y,⟨some a,cap,by simp,by simpa using hl,hm,fun h0=>?_⟩,fun c hc=>?_,fun n c e=>by injection e with e;cases e⟩
  .
   have h0':0<len:=by
    rcases za len with h | h
    . subst h;simp at h0
    . exact h
   have Br:=aE6 (Ae 0 h0').1 rfl;obtain⟨b,off,spot⟩:=a;simp only at Br;subst Br;refine⟨b,off,rfl,fun j u hu=>?_⟩;obtain⟨h1,h2⟩:=aE5 hu;subst h2;obtain⟨b0,b1,b2,_⟩:=Ae j h1;obtain⟨q1,q2,q3,_⟩:=hY j h1;rw[ad8]at b0 b1 b2;exact⟨_,_,b0,b1,by rw[Nat.add_assoc,b2,q1],q2,q3⟩
  . obtain⟨i,hi,rfl⟩:=qg.1 hc;exact (hY i (xt.1 hi)).2.2.2
end Go.Proofs.YtllgglolcgdehaaGreatDoor
namespace Go.Gs
open Go.RowKit Go.ChangeShapes Go.WideShapes Go.ChangeAt
variable {P:Program} {H:Type} {enc:TypeId × Value->H} {W:World} {base:Nat} {held:Bool} {fuel:Nat} {t e:TypeId} {a:Option Addr} {len cap:Nat} {x:DataW H × List MemPlace}
theorem add_plain{b off j:Nat}:(⟨b,off,none⟩:Addr).add j=⟨b,off+j,none⟩:=by unfold Addr.add;split <;> simp_all
theorem ct1{z:Int}(h:(Lit.int .u8 z).wf=true):U (UInt8.ofNat z.toNat)=.int .u8 z:=by
 have hx:0<=z/\z<=255:=by simpa[Lit.wf,IntKind.min,IntKind.max,IntKind.signed,IntKind.bits]using h
 have:((UInt8.ofNat z.toNat).toNat:Int)=z:=by rw[UInt8.toNat_ofNat_of_lt' (by show _<256;omega)];omega
 simp only[U,this]
theorem aV6(ht:P.underlying t=some (.slice e))(he:P.underlying e=some (.int .u8))(hc:P.cellsOf e=1)
 (hf:DataW.trod enc P W base (fun _=>true) held fuel t [.slice a len cap]=some x):
 ∃bs:List UInt8,bs.length=len/\Reads W (.slice a len cap) bs.length (bs.map U):=by
 rcases open_ints ht he hc hf with⟨hcs,_⟩|⟨ad,l,c,zs,hcs,_,hl,hm,hz,_,Ac,hwz⟩
 . simp at hcs;obtain⟨rfl,rfl,rfl⟩:=hcs;exact⟨[],rfl,rfl,none,0,rfl,qB _,by simp,fun h=>absurd rfl h⟩
 .
  simp at hcs;obtain⟨rfl,rfl,rfl⟩:=hcs;have hz':zs.length=cap:=by simpa using hz
  have hbl:((zs.take len).map (fun z=>UInt8.ofNat z.toNat)).length=len:=by simp;omega
  refine⟨(zs.take len).map (fun z=>UInt8.ofNat z.toNat),hbl,by simp,some ad,cap,by rw[hbl],by omega,hm,fun h0=>?_⟩;rw[hbl]at h0;obtain⟨b,off,spot⟩:=ad;have h00:=Ac 0 (by omega);have Br:spot=none:=by simpa[Addr.add]using World.cell?_spot h00
  subst Br;refine⟨b,off,rfl,fun j u hu=>?_⟩;have hj:j<len:=by have:=(gSm hu).1;simp at this;omega
  have hjz:j<zs.length:=by omega
  have hcj:=Ac j hjz;rw[add_plain]at hcj;rw[hcj];simp only[xh,qQ,xR,hj,if_true,gEl hjz,qu,Function.comp_apply,qW]at hu;rw[ct1 (hwz _ (zH hjz))]at hu;rw[<- hu];simp[hjz]
theorem aB4(ht:P.underlying t=some (.slice e))(he:P.underlying e=some .string)(hc:P.cellsOf e=1)
 (hf:DataW.trod enc P W base (fun _=>true) held fuel t [.slice a len cap]=some x):
 ∃ls:List (List UInt8),ls.length=len/\Reads W (.slice a len cap) ls.length (ls.map S)/\∀s∈ls,s.length<=9223372036854775807:=by
 rcases open_strings ht he hc hf with⟨hcs,_⟩|⟨ad,l,c,ss,hcs,_,hl,hm,hz,_,Ac,hwz⟩
 . simp at hcs;obtain⟨rfl,rfl,rfl⟩:=hcs;exact⟨[],rfl,⟨rfl,none,0,rfl,qB _,by simp,fun h=>absurd rfl h⟩,by simp⟩
 .
  simp at hcs;obtain⟨rfl,rfl,rfl⟩:=hcs;have hz':ss.length=cap:=by simpa using hz
  have hbl:((ss.take len).map (fun s=>s.data.toList)).length=len:=by simp;omega
  refine⟨(ss.take len).map (fun s=>s.data.toList),hbl,⟨by simp,some ad,cap,by rw[hbl],by omega,hm,fun h0=>?_⟩,?_⟩
  .
   rw[hbl]at h0;obtain⟨b,off,spot⟩:=ad;have h00:=Ac 0 (by omega);have Br:spot=none:=by simpa[Addr.add]using World.cell?_spot h00
   subst Br;refine⟨b,off,rfl,fun j u hu=>?_⟩;have hj:j<len:=by have:=(gSm hu).1;simp at this;omega
   have hjz:j<ss.length:=by omega
   have hcj:=Ac j hjz;rw[add_plain]at hcj;rw[hcj];simp only[xh,qQ,xR,hj,if_true,gEl hjz,qu,Function.comp_apply,qW]at hu;rw[<- hu];simp[hjz,S]
  . intro s hs;simp only[qg]at hs;obtain⟨y,hy,rfl⟩:=hs;have h1:y.size<=maxLen:=hwz y (xo hy);have h2:y.data.toList.length=y.size:=xY;unfold maxLen at h1;omega
end Go.Gs
namespace Go.Proofs.YtllgglolcgdehaaGreatDoor
open Go.RowKit Go.Gs Go.ChangeShapes Go.WideShapes Go.ChangeAt Tryz
variable {H:Type} {enc:TypeId × Value->H} {W:World} {base:Nat} {held:Bool} {fuel:Nat} {x:DataW H × List MemPlace}
theorem bH6{w:World}{a:Addr}{k:Nat}{v:Value}(h:w.cell? (a.add k)=some v)(hk:k=0):a.spot=none:=by obtain⟨b,off,spot⟩:=a;subst hk;simpa[Addr.add]using World.cell?_spot h
theorem aV7{v:Value}(hf:DataW.trod enc prog W base (fun _=>true) held fuel 25 [v]=some x):
 ∃fs:List SFile,j6 W v fs/\(∀f∈fs,M9 f)/\∀n c,v=.slice none n c->c=0:=by
 rcases Deep.open_slice_pairs underlying25 underlying83 (by kernel_rfl) rfl rfl (by kernel_rfl) (by kernel_rfl) hf with⟨hcs,_⟩|⟨a,len,cap,m,n,V0,V1,D0,D1,P0,P1,hcs,hb,hl,hm,hmm,_,Ae⟩
 . simp at hcs;subst hcs;exact⟨[],⟨none,0,rfl,qB _,by simp,fun h=>absurd rfl h⟩,(by intro c hc;cases hc),fun n c e=>by injection e with _ _ e;exact e.symm⟩
 .
  simp at hcs;subst hcs;simp only[if_true]at hmm;subst hmm;have each:∀i,i<len->∃f:SFile,V0 i=.string ⟨f.name.toArray⟩/\Reads W (V1 i) f.b.length (f.b.map U)/\M9 f:=by
   intro i hi;obtain⟨_,_,g0,g1⟩:=Ae i (by omega);obtain⟨s,e2,_,hs⟩:=DataW.trod_string underlying9 g0;simp at e2;obtain⟨a',l',c',hv⟩:∃a' l' c',V1 i=.slice a' l' c':=by
    rcases open_ints underlying28 underlying5 (by kernel_rfl) g1 with⟨hcs,_⟩|⟨ad',l',c',zs,hcs,_⟩
    . exact⟨none,0,0,by simpa using hcs⟩
    . exact⟨some ad',l',c',by simpa using hcs⟩
   rw[hv]at g1 ⊢;obtain⟨bs,hbl,hr⟩:=aV6 underlying28 underlying5 (by kernel_rfl) g1;refine⟨⟨s.data.toList,bs⟩,e2,hr,?_⟩;unfold M9;unfold maxLen at hs;have:s.data.toList.length=s.size:=xY;show s.data.toList.length<=_;omega
  haveI:Inhabited SFile:=⟨⟨[],[]⟩⟩;obtain⟨Y,hY⟩:=Deep.choose_lt each;have Ed:∀(j:Nat)(p:SFile),((List.range len).map Y)[j]? = some p->j<len/\p=Y j:=by
   intro j p hj;rw[qQ]at hj;by_cases h1:j<len
   . rw[xq h1]at hj;simp only[qu,qW]at hj;exact⟨h1,hj.symm⟩
   . rw[qm (by simp;omega)]at hj
     cases hj
  refine⟨(List.range len).map Y,⟨some a,m,by simp,by simpa using hl,hm,fun h0=>?_⟩,fun f hf=>?_,fun n c e=>by injection e with e;cases e⟩
  .
   have h0':0<len:=by
    rcases za len with h | h
    . subst h;simp at h0
    . exact h
   have Br:=bH6 (Ae 0 (by omega)).1 rfl;obtain⟨b,off,spot⟩:=a;simp only at Br;subst Br;refine⟨b,off,rfl,fun j f hj=>?_⟩;obtain⟨h1,rfl⟩:=Ed j f hj;obtain⟨c0,c1,_,_⟩:=Ae j (by omega);obtain⟨q0,q1,_⟩:=hY j h1;rw[Gs.add_plain]at c0 c1;exact⟨V1 j,by rw[c0,q0],by rw[Nat.add_assoc];exact c1,q1⟩
  . obtain⟨i,hi,rfl⟩:=qg.1 hf;exact (hY i (xt.1 hi)).2.2
end Go.Proofs.YtllgglolcgdehaaGreatDoor
namespace Go.Proofs.YtllgglolcgdehaaGreatDoor
open Go.RowKit Go.Gs Go.ChangeShapes Go.WideShapes Go.ChangeAt Tryz
variable {H:Type} {enc:TypeId × Value->H} {W:World} {base:Nat} {held:Bool} {fuel:Nat} {x:DataW H × List MemPlace}
theorem aB6{v:Value}{cs:List Cmd}(hr:H9 W v cs)(hf:DataW.trod enc prog W base (fun _=>true) held fuel 54 [v]=some x):∀c∈cs,(Lit.int .i64 c.kind).wf=true:=by
 intro c hc;obtain⟨k,hk⟩:=qb hc;obtain⟨ao,cap,rfl,_,_⟩:=hr.shape;obtain⟨b,off,rfl,hc0,_,_⟩:=hr.at hk;have hlt:k<cs.length:=(gSm hk).1;rcases ab9 underlying54 underlying70 (by kernel_rfl) rfl rfl rfl (by kernel_rfl) (by kernel_rfl) (by kernel_rfl) hf with hcs | ⟨a,len,cap',V,hcs,hl,hm,Ae⟩
 . simp at hcs
 . simp only[List.cons.injEq,and_true,xZ,qW]at hcs;obtain⟨rfl,rfl,rfl⟩:=hcs;obtain⟨q0,_,_,n,y0,y1,y2,g0,_,_⟩:=Ae k hlt;rw[ad8]at q0;rw[hc0]at q0;obtain⟨z,e1,_,hwf⟩:=DataW.trod_int underlying3 g0;injection q0 with q0;rw[<- q0]at e1;simp at e1;rw[e1];exact hwf
theorem aT3{v:Value}{ls:List SLine}(hr:I0 W v ls)(hf:DataW.trod enc prog W base (fun _=>true) held fuel 91 [v]=some x):∀x∈ls,WfL x:=by
 intro y hy;obtain⟨k,hk⟩:=qb hy;obtain⟨ao,cap,rfl,_,_⟩:=hr.shape;obtain⟨b,off,af,cf,ad,cd,rfl,hc0,hc1,hc2,h1,h2⟩:=hr.at hk;have hlt:k<ls.length:=(gSm hk).1;rcases ab9 underlying91 underlying56 (by kernel_rfl) rfl rfl rfl (by kernel_rfl) (by kernel_rfl) (by kernel_rfl) hf with hcs | ⟨a,len,cap',V,hcs,hl,hm,Ae⟩
 . simp at hcs
 . simp only[List.cons.injEq,and_true,xZ,qW]at hcs;obtain⟨rfl,rfl,rfl⟩:=hcs;obtain⟨_,q1,_,n,y0,y1,y2,_,g1,_⟩:=Ae k hlt;rw[ad8]at q1;have e:W.cell? ⟨b,off+(k*3+1),none⟩=some (.slice ad y.cs.length cd):=by rw[<- Nat.add_assoc];exact hc1
   rw[e]at q1;injection q1 with q1;rw[<- q1]at g1;exact aB6 h2 g1
end Go.Proofs.YtllgglolcgdehaaGreatDoor
namespace Go.Gs
open Go.RowKit Go.ChangeShapes Go.WideShapes Go.ChangeAt
variable {P:Program} {H:Type} {enc:TypeId × Value->H} {W:World} {base:Nat} {held:Bool} {fuel:Nat} {t e:TypeId} {v:Value} {x:DataW H × List MemPlace}
theorem bH7{b off j:Nat}:(⟨b,off,none⟩:Addr).add j=⟨b,off+j,none⟩:=by unfold Addr.add;split <;> simp_all
theorem bw9{k:IntKind}(ht:P.underlying t=some (.slice e))(he:P.underlying e=some (.int k))(hc:P.cellsOf e=1)
 (hf:DataW.trod enc P W base (fun _=>true) held fuel t [v]=some x):
 ∃(zs:List Int)(a:Option Addr)(cap:Nat),v=.slice a zs.length cap/\Reads W (.slice a zs.length cap) zs.length (zs.map (Value.int k))/\(a=none->cap=0)/\∀z∈zs,(Lit.int k z).wf=true:=by
 rcases open_ints ht he hc hf with⟨hcs,_⟩|⟨ad,l,c,zs,hcs,_,hl,hm,hz,_,Ac,hwz⟩
 . simp at hcs;subst hcs;exact⟨[],none,0,rfl,⟨rfl,none,0,rfl,qB _,by simp,fun h=>absurd rfl h⟩,fun _=>rfl,by simp⟩
 .
  simp at hcs;subst hcs;have hz':zs.length=c:=by simpa using hz
  have hbl:(zs.take l).length=l:=by rw[qL];omega
  refine⟨zs.take l,some ad,c,by rw[hbl],⟨by rw[qM],some ad,c,by rw[hbl],by omega,hm,fun h0=>?_⟩,(fun h=>by cases h),fun z hzm=>hwz z (xo hzm)⟩;rw[hbl]at h0;obtain⟨b,off,spot⟩:=ad;have h00:=Ac 0 (by omega);have Br:spot=none:=by simpa[Addr.add]using World.cell?_spot h00
  subst Br;refine⟨b,off,rfl,fun j u hu=>?_⟩;have hj:j<l:=by have:=(gSm hu).1;simp at this;omega
  have hjz:j<zs.length:=by omega
  have hcj:=Ac j hjz;rw[bH7]at hcj;rw[hcj];simp only[qQ,xR,hj,if_true,gEl hjz,qu,qW]at hu;rw[<- hu];simp[hjz]
end Go.Gs
