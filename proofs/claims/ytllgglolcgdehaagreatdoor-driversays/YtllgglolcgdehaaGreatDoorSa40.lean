/- What the closed script of the driver's laws makes, and more. -/
import Derived.Test.YtllgglolcgdehaaGreatDoorSAb
import Derived.Shelf.GgSortFunc.SmallK
import Derived.Shelf.GgSortFunc.Tiny
import Derived.Test.YtllgglolcgdehaaGreatDoorSa39
set_option linter.all false
set_option maxRecDepth 100000
set_option maxHeartbeats 16000000
namespace Go.Proofs.YtllgglolcgdehaaGreatDoor
open Go.RowKit Go.Gs Tryz
def drOs(p:Nat):List Obj:=[
 .cells #[.int .u8 98,.int .u8 32,.int .u8 120,.int .u8 10,.int .u8 97,.int .u8 32,.int .u8 121,.int .u8 10,.int .u8 99,.int .u8 32,.int .u8 122] 5 (11,12),
 .cells #[.string ⟨#[97]⟩,.slice (some ⟨p,0,none⟩) 11 11] 83,
 .cells #[.string ⟨#[97]⟩,.string ⟨#[97]⟩] 9,
 .cells #[.int .i64 4,.string ⟨#[]⟩,.int .i64 1,.int .i64 6,.string ⟨#[]⟩,.int .i64 0,.int .i64 7,.string ⟨#[]⟩,.int .i64 0] 70,
 .cells #[.string ⟨#[99]⟩] 9,
 .cells #[.int .i64 8,.string ⟨#[]⟩,.int .i64 0] 70,
 .cells #[.slice (some ⟨p+1+1,0,none⟩) 2 2,.slice (some ⟨p+1+1+1,0,none⟩) 3 3,.string ⟨#[99]⟩,.slice (some ⟨p+1+1+1+1,0,none⟩) 1 1,.slice (some ⟨p+1+1+1+1+1,0,none⟩) 1 1,.string ⟨#[100]⟩] 56,
 .cells #[.int .i64 0,.int .i64 5,.int .i64 2,.int .i64 2,.int .i64 2] 3]
theorem ar8{W:World}{q n:Nat}{C:Array Value}{t:TypeId}{fr:Nat × Nat}(h:W.heap[q]? = some (.cells C t fr))(hn:C.size=n)(hm:n<=1000000):Reads W (.slice (some ⟨q,0,none⟩) n n) n C.toList:=by refine⟨by simpa using hn,_,n,rfl,qB _,by unfold maxLen;omega,fun _=>⟨q,0,rfl,fun j u hu=>?_⟩⟩;rw[qV _ _ _ _ _ _ h,qa];simpa using hu
theorem ci8(w:World):j6 (af4 w (drOs w.heap.size)) (.slice (some ⟨w.heap.size+1,0,none⟩) 1 1) drF:=by
 have h0:=G5 (drOs w.heap.size) w 0 _ rfl;have h1:=G5 (drOs w.heap.size) w 1 _ rfl;generalize af4 w (drOs w.heap.size)=W at *;refine⟨_,1,rfl,qB _,by simp[maxLen],fun _=>⟨w.heap.size+1,0,rfl,fun j f hj=>?_⟩⟩
 match j,hj with
 | 0,hj=>
  have e:f=⟨[97],[98,32,120,10,97,32,121,10,99,32,122]⟩:=by simpa[drF]using hj.symm
  subst e
  exact⟨_,qR h1 rfl,qR h1 rfl,ar8 h0 rfl (by decide)⟩
 | j+1,hj=>simp[drF]at hj
theorem ci9(w:World):I0 (af4 w (drOs w.heap.size)) (.slice (some ⟨w.heap.size+1+1+1+1+1+1,0,none⟩) 2 2) drL:=by
 have h2:=G5 (drOs w.heap.size) w 2 _ rfl;have h3:=G5 (drOs w.heap.size) w 3 _ rfl;have h4:=G5 (drOs w.heap.size) w 4 _ rfl;have h5:=G5 (drOs w.heap.size) w 5 _ rfl;have h6:=G5 (drOs w.heap.size) w 6 _ rfl;generalize af4 w (drOs w.heap.size)=W at *;refine⟨_,2,rfl,qB _,by simp[maxLen],fun _=>⟨w.heap.size+1+1+1+1+1+1,0,rfl,fun j x hj=>?_⟩⟩
 match j,hj with
 | 0,hj=>
  have e:x=⟨[[97],[97]],[⟨4,[],1⟩,⟨6,[],0⟩,⟨7,[],0⟩],[99]⟩:=by simpa[drL]using hj.symm
  subst e
  refine⟨_,_,qR h6 rfl,qR h6 rfl,qR h6 rfl,ar8 h2 rfl (by decide),?_⟩
  refine⟨_,3,rfl,qB _,by simp[maxLen],fun _=>⟨w.heap.size+1+1+1,0,rfl,fun j c hj=>?_⟩⟩
  match j,hj with
  | 0,hj=>
   have e:c=⟨4,[],1⟩:=by simpa using hj.symm
   subst e
   exact⟨qR h3 rfl,qR h3 rfl,qR h3 rfl⟩
  | 1,hj=>
   have e:c=⟨6,[],0⟩:=by simpa using hj.symm
   subst e
   exact⟨qR h3 rfl,qR h3 rfl,qR h3 rfl⟩
  | 2,hj=>
   have e:c=⟨7,[],0⟩:=by simpa using hj.symm
   subst e
   exact⟨qR h3 rfl,qR h3 rfl,qR h3 rfl⟩
  | j+3,hj=>simp at hj
 | 1,hj=>
  have e:x=⟨[[99]],[⟨8,[],0⟩],[100]⟩:=by simpa[drL]using hj.symm
  subst e
  refine⟨_,_,qR h6 rfl,qR h6 rfl,qR h6 rfl,ar8 h4 rfl (by decide),?_⟩
  refine⟨_,1,rfl,qB _,by simp[maxLen],fun _=>⟨w.heap.size+1+1+1+1+1,0,rfl,fun j c hj=>?_⟩⟩
  match j,hj with
  | 0,hj=>
   have e:c=⟨8,[],0⟩:=by simpa using hj.symm
   subst e
   exact⟨qR h5 rfl,qR h5 rfl,qR h5 rfl⟩
  | j+1,hj=>simp at hj
 | j+2,hj=>simp[drL]at hj
theorem cj0(w:World):Reads (af4 w (drOs w.heap.size)) (.slice (some ⟨w.heap.size+1+1+1+1+1+1+1,0,none⟩) 5 5) 5 (Zs [0,5,2,2,2]):=ar8 (G5 (drOs w.heap.size) w 7 _ rfl) rfl (by decide)
theorem cr1(w:World)(hE:D6 w):
 Calls prog 43 #[.slice (some ⟨w.heap.size+1,0,none⟩) 1 1,.slice (some ⟨w.heap.size+1+1+1+1+1+1,0,none⟩) 2 2,.int .i64 3,.int .i64 1,.slice (some ⟨w.heap.size+1+1+1+1+1+1+1,0,none⟩) 5 5] (af4 w (drOs w.heap.size)) fun e w'=>∃b off cr va vc,e=.returned (.tuple #[.slice (some ⟨b,off,none⟩) 3 cr,.int .i64 0])/\3<=cr/\cr<=9223372036854775807/\w'.cell? ⟨b,off+3,none⟩=some va/\w'.cell? ⟨b,off+5,none⟩=some vc/\Reads w' va 6 ([97,10,98,10,99,10].map U)/\Reads w' vc 2 ([51,10].map U)/\Bq w w':=by have hb:=Z7 (drOs w.heap.size) w;have hR:=bK3 3 1 [0,5,2,2,2] _ _ _ 1 2 5 drF drL _ (ci8 w) (by intro f hf;simp[drF]at hf;rcases hf with rfl;(show _<=_;decide)) (ci9 w) (by intro x hx;simp[drL]at hx;rcases hx with rfl | rfl <;> (refine⟨?_,?_,?_⟩ <;> simp[bZ0])) (cj0 w) (hE.below hb);rw[bC4 (by decide) (by decide) (by decide),bw3]at hR;refine hR.mono ?_;rintro e w1⟨ar,cr,rfl,hf,hb1⟩;obtain⟨b,off,ab,cb,rfl,c0,c1,r0⟩:=hf.at (k:=1) rfl;obtain⟨b',off',ab',cb',e',c2,c3,r2⟩:=hf.at (k:=2) rfl;injection e' with e';injection e' with e1 e2;subst e1 e2;have hle:=Y2 hf;exact⟨b,off,cr,_,_,rfl,hle.1,hle.2,c1,c3,r0,r2,hb.trans (hb1.mono hb.size)⟩
theorem bw8(w:World)(hE:D6 w):Calls prog 44 #[] w fun e w'=>e=.returned (.bool true)/\Bq w w':=by have kc:=fun(w:World)(C:Array Value)(n c:Nat)=>Lib.run_convert_bytes_const (P:=prog) w 28 5 C n c underlying28 underlying5;have kc2:=fun(C:Array Value)(n c:Nat)=>kc w C n c;have HR:Hid _:=cr1 w hE;clear hE;go_enter Tryz.func44,Tryz.ntmps44;go_wp2_with fail;refine qD HR.out ?_;rintro e w1⟨b,off,cr,va,vc,rfl,h3,hcr,hc1,hc2,hra,hrc,hb⟩;have HB:=qH hb;obtain⟨_,a1,q1,rfl,_,_,_⟩:=id hra;obtain⟨_,a2,q2,rfl,_,_,_⟩:=id hrc;have k1:=ah6 (bs:=[97,10,98,10,99,10]) hra;have k2:=ah6 (bs:=[51,10]) hrc;clear hb hra hrc HR kc kc2;go_wp2_with fail;go_ret;exact⟨rfl,HB.out⟩
variable [DecidableEq SFile]
theorem bY1(x y:SFile)(ab bb:Option Addr)(cb eb:Nat)(w:World)(hx:Reads w (.slice ab x.b.length cb) x.b.length (x.b.map U))(hy:Reads w (.slice bb y.b.length eb) y.b.length (y.b.map U)):
 Calls prog 100 #[.agg #[.string ⟨x.name.toArray⟩,.slice ab x.b.length cb],.agg #[.string ⟨y.name.toArray⟩,.slice bb y.b.length eb]] w fun e w'=>e=.returned (.bool (decide (x=y)))/\Bq w w':=by
 have HE1:Hid _:=fun(W:World)(hb:Bq w W)=>aZ2 ab bb cb eb x.b y.b W (Reads.below hx hb) (Reads.below hy hb);have hse:=ay6 x.name y.name
 have HXY:=qH (show x=y ↔ x.name=y.name/\x.b=y.b from ⟨fun h=>by subst h;exact⟨rfl,rfl⟩,fun ⟨h1,h2⟩=>by
  obtain⟨a1,a2⟩:=x
  obtain⟨b1,b2⟩:=y
  simp only at h1 h2
  subst h1 h2
  rfl⟩)
 obtain⟨d0,hd0⟩:=qE (decide (x.name=y.name));obtain⟨d1,hd1⟩:=qE (decide (x.b=y.b))
 have HD:=qH (show decide (x=y)=(d0 && d1) by
  rw[hd0,hd1,<- Bool.decide_and]
  exact decide_eq_decide.2 HXY.out)
 rw[<- hd0]at hse;rw[<- hd1]at HE1;generalize (⟨x.name.toArray⟩:ByteArray)=tx at *;generalize (⟨y.name.toArray⟩:ByteArray)=ty at *;generalize x.b.length=NF at *;generalize y.b.length=MF at *;clear hx hy hd0 hd1 HXY
 cases d0 with
 | false=>
  have Lp:¬tx.toList=ty.toList:=by simpa using hse
  clear hse
  go_enter Tryz.func100,Tryz.ntmps100
  go_wp2_with fail
  go_ret
  exact⟨by rw[HD.out];rfl,ac8⟩
 | true=>
  have Lp:tx.toList=ty.toList:=by simpa using hse
  clear hse
  go_enter Tryz.func100,Tryz.ntmps100
  go_wp2_with fail
  refine qD (HE1.out _ ac8) ?_
  rintro e w3⟨rfl,hb3⟩
  have HB3:Hid (Bq w w3):=ac8.trans (hb3.mono ac8.size)
  clear hb3 HE1
  go_wp2_with fail
  go_ret
  exact⟨by rw[HD.out];rfl,HB3.out⟩
end Go.Proofs.YtllgglolcgdehaaGreatDoor
namespace Go.Proofs.YtllgglolcgdehaaGreatDoor
open Go.RowKit Go.Gs Tryz
variable [DecidableEq SFile]
theorem bY2(au av:Option Addr)(cu cv:Nat)(a b:List SFile)(w:World)(ha:j6 w (.slice au a.length cu) a)(hb:j6 w (.slice av b.length cv) b):
 Calls prog 99 #[.slice au a.length cu,.slice av b.length cv,.func (.func 100) #[] #[]] w fun e w'=>e=.returned (.bool (decide (a=b)))/\Bq w w':=by
 have m2:=Y2 ha;have m4:=Y2 hb;have HA:=qH ha;have HB:=qH hb;obtain⟨NA,hNA⟩:=qE a.length;obtain⟨NB,hNB⟩:=qE b.length;have HNA:=qH hNA;have HNB:=qH hNB;have hA1:NA<=9223372036854775807:=by omega
 have hB1:NB<=9223372036854775807:=by omega
 rw[<- hNA,<- hNB];rw[<- hNA]at HA;rw[<- hNB]at HB;clear ha hb m2 m4 hNA hNB;by_cases hne:NA=NB
 .
  subst hne;go_enter Tryz.func99,Tryz.ntmps99;go_wp2_with fail;go_loopw [17] (fun i wr=>∃k:Nat,k<=NA/\i=.int .i64 k/\Hid (Bq w wr)/\Hid (a.take k=b.take k)) (fun i _=>NA-(intOf i).toNat)
  case atStart=>exact⟨0,qP _,rfl,qI _ _,(show _=_ by simp)⟩
  case round=>
   obtain⟨k,hk,rfl,Aa,Ae⟩:=hrel;by_cases hlt:k<NA
   .
    obtain⟨x,hx⟩:∃x,a[k]? = some x:=⟨_,gEl (by have:=HNA.out;omega)⟩;obtain⟨y,hy⟩:∃y,b[k]? = some y:=⟨_,gEl (by have:=HNB.out;omega)⟩;have HX:=qH hx;have HY:=qH hy;obtain⟨b1,o1,ab,cb,rfl,Hk,hc11,hrx⟩:=(j6.below HA.out Aa.out).at hx;obtain⟨b2,o2,bb,eb,rfl,Wg,Wh,hry⟩:=(j6.below HB.out Aa.out).at hy;have HS:Hid _:=fun(W:World)(hb:Bq wr W)=>bY1 x y ab bb cb eb W (Reads.below hrx hb) (Reads.below hry hb);obtain⟨d,hd⟩:=qE (decide (x=y));have HDD:=qH hd;rw[<- hd]at HS;have hg20:=(C5 (w:=wr) (o:=.cells #[.string ⟨x.name.toArray⟩,.slice ab x.b.length cb] 83)).cell (bLt wr _ Wg);have hg21:=(C5 (w:=wr) (o:=.cells #[.string ⟨x.name.toArray⟩,.slice ab x.b.length cb] 83)).cell (bLt wr _ Wh);rw[Wg]at hg20;rw[Wh]at hg21;generalize (⟨x.name.toArray⟩:ByteArray)=tx at *;generalize (⟨y.name.toArray⟩:ByteArray)=ty at *;generalize x.b.length=NF at *
    generalize y.b.length=MF at *;clear hx hy hd hrx hry Wg Wh;go_wp2_with fail;refine qD (HS.out _ ac8) ?_;rintro e w3⟨rfl,hb3⟩;have HB3:Hid (Bq w w3):=(qT Aa ac8).out.trans (hb3.mono (qw Aa.out.size ac8.size));clear hb3 HS hg20 hg21 Hk hc11
    cases d with
    | true=>
     have hxy:x=y:=qc HDD.out.symm
     have HE:Hid (a.take (k+1)=b.take (k+1)):=bo3 Ae.out HX.out (by rw[hxy];exact HY.out)
     clear hxy Ae
     go_wp2_with fail
     go_roundw
     case rel=>exact⟨k+1,by omega,by go_num,HB3,HE⟩
     case measure=>simp[intOf];omega
    | false=>
     have HE:Hid (a≠b):=ca1 HX.out HY.out (zu HDD.out.symm)
     clear Ae
     go_wp2_with fail
     go_ret
     exact⟨by rw[qU HE.out];rfl,HB3.out⟩
   .
    have HE:=qH (show a=b by
     have h:=Ae.out
     rw[qO (by have:=HNA.out;omega),qO (by have:=HNB.out;omega)]at h
     exact h)
    clear Ae;go_wp2_with fail;go_ret;exact⟨by rw[qd HE.out];rfl,Aa.out⟩
 . have HE:Hid (a≠b):=(show a≠b from fun e=>hne (by rw[HNA.out,HNB.out,e]));have hq:¬(NA:Int)=NB:=by omega
   go_enter Tryz.func99,Tryz.ntmps99;go_wp2_with fail;go_ret;exact⟨by rw[qU HE.out];rfl,qI _ _⟩
theorem aV4(au av:Option Addr)(cu cv:Nat)(a b:List SFile)(w:World)(ha:j6 w (.slice au a.length cu) a)(hb:j6 w (.slice av b.length cv) b):
 Calls prog 34 #[.slice au a.length cu,.slice av b.length cv] w fun e w'=>e=.returned (.bool (decide (a=b)))/\Bq w w':=by have hE:=bY2 au av cu cv a b w ha hb;obtain⟨d,hd⟩:=qE (decide (a=b));rw[<- hd]at hE ⊢;generalize a.length=NA at *;generalize b.length=NB at *;clear ha hb hd;go_enter Tryz.func34,Tryz.ntmps34;go_wp2_with fail;refine qD hE ?_;rintro e w1⟨rfl,hb1⟩;have HB:=qH hb1;clear hb1 hE;go_wp2_with fail;go_ret;exact⟨rfl,HB.out⟩
end Go.Proofs.YtllgglolcgdehaaGreatDoor
namespace Go.Proofs.YtllgglolcgdehaaGreatDoor
open Go.RowKit Go.Gs Go.Shelf Go.Lib Go.Sort Tryz
def ltF(x y:FRow):Bool:=decide (x.1.name<y.1.name)
theorem co9:SWO ltF:=⟨fun x=>qU (zN _),fun x y z h1 h2=>qd (zd (qc h1) (qc h2)),fun x y z h1 h2=>qU (by
 have a:=List.not_lt.1 (zu h1)
 have b:=List.not_lt.1 (zu h2)
 exact List.not_lt.2 (List.le_trans b a))⟩
theorem cs8(blk off c Bs size:Nat)(W:World)(G:Nat->ByteArray)(hs:W.cell? ⟨Bs,0,none⟩=some (.slice (some ⟨blk,off,none⟩) size c))
 (hc:∀t,t<size->W.cell? ⟨blk,off+t*2,none⟩=some (.string (G t))) (i j:Nat) (hi:i<size) (hj:j<size) (_hsz:size<4611686018427387904):
 Calls prog 112 #[.int .i64 i,.int .i64 j,.pointer (some ⟨Bs,0,none⟩)] W fun e w'=>e=.returned (.bool (Op.bytesLess (G i).toList (G j).toList))/\∃q,w'=W.drewN q:=by have ci:=hc i hi;have cj:=hc j hj;clear hc;go_enter Tryz.func112,Tryz.ntmps112;go_wp2_with fail;go_quiet (fail);go_wp2_with fail;go_ret;exact⟨rfl,nq,rfl⟩
theorem svTE:∃i ie:TypeInfo,prog.info? 25 = some i/\i.desc=.slice 83 /\ prog.info? 83 = some ie/\ie.size=2/\ie.hasPointers=true/\ie.bytes=40:=by
 have h1:(prog.info? 25).map (·.desc)=some (.slice 83):=by kernel_rfl
 have h2:(prog.info? 83).map (fun i=>(i.size,i.hasPointers,i.bytes))=some (2,true,40):=by kernel_rfl
 obtain⟨i,e1,e3⟩:=Option.map_eq_some_iff.1 h1;obtain⟨ie,e2,e4⟩:=Option.map_eq_some_iff.1 h2;injection e4 with e5 e6;injection e6 with e6 e7;exact⟨i,ie,e1,e3,e2,e5,e6,e7⟩
theorem svK(n:Nat)(ie:TypeInfo)(a:ie.hasPointers=true)(b:ie.bytes=40)(h2:2<=n):Lib.swapperK n ie 25=9:=by
 have c:(n==0)=false:=by simp;omega
 have d:(n==1)=false:=by simp;omega
 simp[Lib.swapperK,a,b,c,d]
theorem cj1[Inhabited FRow](blk off c Bs:Nat)(d:Array FRow)(h2:2<=d.size)(h12:d.size<=12)(w:World)(hH:HoldsK encF 2 w blk off d)(hblk:blk<w.heap.size)
 (hBs:w.cell? ⟨Bs,0,none⟩=some (.slice (some ⟨blk,off,none⟩) d.size c)) (hB1:Bs<w.heap.size) (hB2:Bs≠blk):
 Calls prog 111 #[.iface 25 (.slice (some ⟨blk,off,none⟩) d.size c),.func (.func 112) #[] #[.pointer (some ⟨Bs,0,none⟩)]] w fun e w'=>
  e=.returned (.tuple #[])/\∃d' n os,PermIn 0 d.size d d'/\SortedIn ltF 0 d.size d'/\w'=grow (putRowK encF 2 (Sort.ahead w n) blk off d') os:=by
 have hless:LessReadsK prog 112 #[.pointer (some ⟨Bs,0,none⟩)] encF 2 ltF blk off d.size w:=by
  intro m os dk hs i j hi hj;have e:sortWorldK encF 2 w blk off m dk os=putRowK encF 2 (grow (Sort.ahead w m) os) blk off dk:=by unfold sortWorldK;rw[putRowK_grow _ _ (Sort.ahead w m) _ blk off _ hblk]
  have hHg:HoldsK encF 2 (grow (Sort.ahead w m) os) blk off d:=holdsK_grow _ _ _ _ blk off d hblk (holdsK_ahead _ _ _ _ _ _ _ hH)
  have hl:=cs8 blk off c Bs d.size (sortWorldK encF 2 w blk off m dk os) (fun t=>⟨dk[t]!.1.name.toArray⟩) (by
   rw[e,cell?_putRowK_other _ _ _ blk off dk _ (by exact hB2),cell?_grow _ _ _ (by exact hB1)];exact hBs) (fun t ht=>by
   rw[e];exact ((holdsK_putRowK _ _ _ blk off d dk hHg hs).cell (i:=t) (c:=0) (by omega) (by omega)).1) i j hi hj (by omega)
  refine hl.mono ?_;rintro e' w'⟨rfl,q,rfl⟩;refine⟨?_,q,rfl⟩;show _=Ending.returned (Value.bool (ltF dk[i]! dk[j]!));unfold ltF;rw[<- ay7];congr 2;rw[ByteArray.toList_eq,ByteArray.toList_eq]
 obtain⟨i,ie,q1,q2,q3,q4,q5,q6⟩:=svTE
 exact Any.sort_Slice_small_cells_sorted Tryz.laysGg6 25 83 i ie q1 q2 (by kernel_rfl) q3 25 (fun _=>by kernel_rfl) encF 2 (fun _=>rfl) q4 (fun _=>by kernel_rfl)
  (fun x v hv=>by simp[encF]at hv;rcases hv with rfl | rfl <;> rfl) ltF co9 112 _
  (enters_of Tryz.func112 (by kernel_rfl) rfl) blk off c d h2 h12 221 (by rw[svK _ ie q5 q6 h2];kernel_rfl) false
  (fun args W=>run_callFunc_extern Tryz.func221 (by kernel_rfl) (by kernel_rfl) (by kernel_rfl) (e:=Extern.ReflectliteSwapper.swap false) (by kernel_rfl) args W) w hless hH hblk
structure PF (w wr:World) (B p:Nat) (v:Value) (out:List FRow):Prop where
 box:wr.heap[p]? = some (.cells #[v] 25 (0,0))
 own:wr.ownsRow B 83 2 v out.length (Gs.f8 out)
 wp:w.heap.size<=p
 pB:p<B
 Bs:B<=wr.heap.size
 bel:Below w.heap.size w wr
theorem PF.below{w wr w':World}{B p:Nat}{v:Value}{out:List FRow}(h:PF w wr B p v out)(hb:Bq wr w'):PF w w' B p v out:=
 ⟨(hb.block _ (by have:=h.pB;have:=h.Bs;omega)).trans h.box,h.own.kept (row:=none) ⟨hb.os,hb.tape,hb.output,hb.size,fun k hk _=>hb.block k hk⟩ (by cases hv:v.ownBlock <;> simp),h.wp,h.pB,qw h.Bs hb.size,h.bel.trans (hb.mono h.bel.size)⟩
theorem PF.box1{w wr w1:World}{o:Obj}{B p:Nat}{v:Value}{out:List FRow}(h:PF w wr B p v out)(hg:(wr.alloc o).grownBy w1 v.ownBlock):w1.heap[p]? = some (.cells #[v] 25 (0,0)):=by have hBs:=h.Bs;have hpB:=h.pB;rw[hg.block p (by simp;omega) (fun e=>by have:=(h.own.lt p e.symm).1;omega)];exact (Below.heap_alloc _ _ _ (by omega)).trans h.box
theorem PF.app{w wr w1:World}{o:Obj}{B p:Nat}{v v':Value}{out:List FRow}(h:PF w wr B p v out)(r:FRow)
 (Ab:w1.ownsRow B 83 2 v' (out.length+1) (Gs.f8 out++encF r)) (hg:(wr.alloc o).grownBy w1 v.ownBlock):PF w (w1.setCell ⟨p,0,none⟩ v') B p v' (out++[r]):=by
 have hbox1:=h.box1 hg;have hBs:=h.Bs;have hpB:=h.pB;have hlt:∀k,v.ownBlock=some k->B<=k:=fun k hk=>(h.own.lt k hk).1;refine⟨?_,?_,h.wp,hpB,?_,?_⟩
 . simp only[World.setCell,Array.getElem?_modify,if_true,hbox1,qu];rfl
 . have e:(out++[r]).length=out.length+1:=by simp
   rw[e,ak1];exact ownsRow_setCell_below Ab (by exact hpB) _
 . have:=hg.size;simp[World.setCell]at this ⊢;omega
 . exact ((h.bel.alloc (by have:=h.bel.size;omega) o).grown hg (by have:=h.bel.size;simp;omega) (fun k hk=>by have:=hlt k hk;have:=h.wp;omega)).setCell (p:=⟨p,0,none⟩) h.wp _
theorem PF.start{w w1:World}(hb:Bq w w1):PF w (w1.alloc (.cells #[.slice none 0 0] 25)) (w1.heap.size+1) w1.heap.size (.slice none 0 0) []:=
 ⟨qN w1 _,World.ownsRow_nil _ _ _ _,hb.size,Nat.lt_succ_self _,by simp,hb.alloc hb.size _⟩
theorem PF.holds[Inhabited FRow]{w wr:World}{B p g cap:Nat}{out:List FRow}(h:PF w wr B p (.slice (some ⟨g,0,none⟩) out.length cap) out):Sort.HoldsK encF 2 wr g 0 out.toArray:=by
 intro j hj;have hj2:j<out.length*2:=by simpa using hj
 have hc:=h.own.cellAt j (by simpa using hj2);have hfz:=h.own.frozenAt j;have hq:j / 2<out.length:=by omega
 have hr:out[j / 2]? = some out[j / 2]:=gEl hq;obtain⟨a1,a2⟩:=U6 out (j / 2) _ hr;rw[qa];refine⟨?_,hfz⟩;rw[hc,id_eq,Sort.get_flatK _ _ _ _ (by simpa using hj2)];have e1:out.toArray[j / 2]! = out[j / 2]:=by simp[hq]
 rw[e1];rcases Nat.mod_two_eq_zero_or_one j with hm | hm
 . rw[hm];have:j=j / 2*2:=by omega
   rw[<- this]at a1;rw[a1];rfl
 . rw[hm];have:j=j / 2*2+1:=by omega
   rw[<- this]at a2;rw[a2];rfl
theorem aI7{B:Nat}{a X:World}(h:Below B a X)(hB:B<=X.heap.size)(os:Array Obj):Below B a (Sort.grow X os):=
 ⟨h.os,h.tape,h.output,qw h.size (by simp[Sort.grow]),fun k hk=>(Sort.heap_grow_old X os (xT hk hB)).trans (h.block k hk)⟩
theorem aJ6{α:Type}[Inhabited α]{R:α->α->Prop}{d:Array α}(h:∀i j,i<j->j<d.size->R d[i]! d[j]!):d.toList.Pairwise R:=by rw[List.pairwise_iff_getElem];intro i j hi hj hij;have:=h i j hij (by simpa using hj);rw[zP d i (by simpa using hi),zP d j (by simpa using hj)]at this;simpa using this
theorem bH4{α:Type}{R:α->α->Prop}:∀{l:List α},l.length=1->l.Pairwise R
 | [x],_=>List.pairwise_singleton _ _
theorem cj2{w wr:World}{B p g cap:Nat}{out:List FRow}(h:PF w wr B p (.slice (some ⟨g,0,none⟩) out.length cap) out)(h1:1<=out.length)(h12:out.length<=12):
 Calls prog 111 #[.iface 25 (.slice (some ⟨g,0,none⟩) out.length cap),.func (.func 112) #[] #[.pointer (some ⟨p,0,none⟩)]] wr fun e w'=>
  e=.returned (.tuple #[])/\∃d':List FRow,d'.Perm out/\d'.Pairwise (fun x y=>x.1.name<=y.1.name)/\(∀(j:Nat)(r:FRow),d'[j]? = some r->w'.cell? ⟨g,0+j*2,none⟩=some (.string ⟨r.1.name.toArray⟩)/\w'.cell? ⟨g,0+j*2+1,none⟩=some (.slice r.2.1 r.2.2.1 r.2.2.2))/\w'.cell? ⟨p,0,none⟩=some (.slice (some ⟨g,0,none⟩) out.length cap)/\Bq w w':=by
 haveI:Inhabited FRow:=⟨(⟨[],[]⟩,none,0,0)⟩;have hpB:=h.pB;have hBs:=h.Bs;have hgB:B<=g/\g<wr.heap.size:=h.own.lt g rfl;have Ah:wr.cell? ⟨p,0,none⟩=some (.slice (some ⟨g,0,none⟩) out.length cap):=by simp[World.cell?,h.box]
 have hH:=h.holds;by_cases h2:2<=out.length
 .
  have hS:=cj1 g 0 cap p out.toArray (by simpa using h2) (by simpa using h12) wr hH hgB.2 (by simpa using Ah) (by omega) (by omega);simp only[zU]at hS;refine hS.mono ?_;rintro e w'⟨rfl,d',n,os,Rw,hsort,rfl⟩;have hsz:d'.size=out.length:=by simpa using Rw.1
  have Uy:Bq w (Sort.putRowK encF 2 (Sort.ahead wr n) g 0 d'):=Lib.below_putRow h.bel (by have:=h.wp;omega);have Wi:(Sort.putRowK encF 2 (Sort.ahead wr n) g 0 d').heap.size=wr.heap.size:=by simp[Sort.putRowK,Sort.putRow,Sort.mapBlock,Sort.ahead]
  have hH':Sort.HoldsK encF 2 (Sort.grow (Sort.putRowK encF 2 (Sort.ahead wr n) g 0 d') os) g 0 d':=
   Sort.holdsK_grow _ _ _ _ g 0 d' (by rw[Wi];exact hgB.2) (Sort.holdsK_putRowK _ _ _ g 0 out.toArray d' (Sort.holdsK_ahead _ _ _ _ _ _ _ hH) (by simpa using hsz))
  refine⟨rfl,d'.toList,?_,?_,?_,?_,aI7 Uy (by rw[Wi];exact h.bel.size) os⟩
  . have:=Rw.2.2;rw[show d'.extract 0 out.length=d' by rw[<- hsz];simp,show out.toArray.extract 0 out.length=out.toArray by simp]at this;simpa using this
  . refine aJ6 (fun i j hij hj=>?_);have:=hsort i j (qP _) hij (by omega);exact List.not_lt.1 (zu this)
  . intro j r hj;obtain⟨hjl,e⟩:=gSm hj;have hj':j<d'.size:=by simpa using hjl
    have c0:=(hH'.cell (i:=j) (c:=0) hj' (by omega)).1;have c1:=(hH'.cell (i:=j) (c:=1) hj' (by omega)).1;have er:d'[j]! = r:=by rw[zP d' j hj'];simpa using e
    rw[er]at c0 c1;exact⟨c0,c1⟩
  . rw[Sort.cell?_grow _ _ _ (by rw[Wi];exact (by omega:p<wr.heap.size)),Sort.cell?_putRowK_other _ _ _ g 0 d' _ (by show p≠g;omega)];exact Ah
 .
  have hn1:out.length=1:=by omega
  obtain⟨i,ie,q1,q2,q3,_⟩:=svTE;have hS:=Any.sort_Slice_tiny Tryz.laysGg6 25 83 i ie q1 q2 (by kernel_rfl) q3 25 (fun _=>by kernel_rfl) (some ⟨g,0,none⟩) out.length cap (by omega) 214 (by rw[hn1,show Lib.swapperK 1 ie 25=2 by simp[Lib.swapperK]];kernel_rfl) (.func 112) #[] #[.pointer (some ⟨p,0,none⟩)] wr;refine qD hS ?_;rintro e w'⟨rfl,os,rfl⟩;have hH':=Sort.holdsK_grow encF 2 wr os g 0 out.toArray hgB.2 hH;refine⟨rfl,out,List.Perm.refl _,?_,?_,?_,aI7 h.bel h.bel.size os⟩
  . exact bH4 hn1
  . intro j r hj;obtain⟨hjl,e⟩:=gSm hj;have c0:=(hH'.cell (i:=j) (c:=0) (by simpa using hjl) (by omega)).1;have c1:=(hH'.cell (i:=j) (c:=1) (by simpa using hjl) (by omega)).1;have er:out.toArray[j]! = r:=by simp[hjl,e]
    rw[er]at c0 c1;exact⟨c0,c1⟩
  . rw[Sort.cell?_grow _ _ _ (by exact (by omega:p<wr.heap.size))];exact Ah
end Go.Proofs.YtllgglolcgdehaaGreatDoor
