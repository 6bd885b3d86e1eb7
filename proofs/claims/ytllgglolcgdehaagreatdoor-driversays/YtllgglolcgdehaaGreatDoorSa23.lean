/- What the developers' join's over does. -/
import Derived.Test.YtllgglolcgdehaaGreatDoorSAb
import Derived.Test.YtllgglolcgdehaaGreatDoorSa22
set_option linter.all false
set_option maxRecDepth 100000
set_option maxHeartbeats 16000000
namespace Go.Proofs.YtllgglolcgdehaaGreatDoor
open Go.RowKit Go.Gs Tryz
theorem cf5{how:Int}{c:Cmd}(h:jchk how c=0):how=1\/how=2\/how=3\/how=4:=by
 unfold jchk at h;by_cases hr:how<1\/4<how
 . rw[qF hr]at h;cases h
 . omega
theorem cn3(c:Cmd)(ps:List (List (List UInt8))):joined 1 c ps=ps.flatten:=by simp[joined]
theorem cn4(c:Cmd)(ps:List (List (List UInt8))):joined 2 c ps=T9 ps:=by simp[joined]
theorem cn5(c:Cmd)(ps:List (List (List UInt8))):joined 3 c ps=[Lib.itoa (sumOf ps:Int)]:=by simp[joined]
theorem cn6(c:Cmd)(ps:List (List (List UInt8))):joined 4 c ps=made c ps.flatten:=by simp[joined]
theorem bU4{w W:World}{bx:Nat}{a b c:Value}(v:Value)(ps:List (List (List UInt8)))(hp:RList W v S ps)(hn:ps.length<=1000)(hl:ps.flatten.length<=1000000)(hB:Bq w W)(h0:W.cell? ⟨bx,0,none⟩=some a)(h1:W.cell? ⟨bx,1,none⟩=some b)(h2:W.cell? ⟨bx,2,none⟩=some c):
 Calls prog 198 #[v] W fun e w'=>∃r,e=.returned r/\Hid (Reads w' r ps.flatten.length (ps.flatten.map S))/\Hid (Bq W w')/\w'.cell? ⟨bx,0,none⟩=some a/\w'.cell? ⟨bx,1,none⟩=some b/\w'.cell? ⟨bx,2,none⟩=some c:=by refine (bb6 v ps W hp hn hl).mono ?_;rintro e w'⟨r,rfl,h3,h4⟩;have hlt:bx<W.heap.size:=bLt W _ h0;exact⟨r,rfl,Reads.of_owns h3,h4,(h4.cell (p:=⟨bx,0,none⟩) hlt).trans h0,(h4.cell (p:=⟨bx,1,none⟩) hlt).trans h1,(h4.cell (p:=⟨bx,2,none⟩) hlt).trans h2⟩
theorem cf6(how:Int)(c:Cmd)(hj:jchk how c=0)(v:Value)(ps:List (List (List UInt8)))(w:World)(hw:c.word.length<=9223372036854775807)(hp:RList w v S ps)(hn:ps.length<=5)(hl:ps.flatten.length<=300000)(hsz:∀p∈ps,∀s∈p,s.length<=300000)(hE:D6 w):
 Calls prog 150 #[.int .i64 how,c.v,v] w fun e w'=>∃r,e=.returned (.tuple #[r,.int .i64 0])/\Reads w' r (joined how c ps).length ((joined how c ps).map S)/\Bq w w':=by
 have Nk:=cf5 hj;have hch:=am6 hj;have hjc:=fun W=>bb8 how c W hw;rw[hj]at hjc;obtain⟨k,word,n⟩:=c;unfold Cmd.v at hjc ⊢;simp only at hw hjc ⊢;have HJC:Hid _:=hjc;clear hjc;have HP:=qH hp;have HE:=qH hE;clear hp hE hj;rcases Nk with rfl | rfl | rfl | rfl
 . rw[cn3];clear hch;generalize (⟨word.toArray⟩:ByteArray)=sx at *;go_enter Tryz.func150,Tryz.ntmps150;go_wp2_with fail;refine (HJC.out _).mono ?_;rintro e w0⟨rfl,hb0⟩;have HB0:Hid (Bq w w0):=i8.trans (hb0.mono (by simp));have HR:Hid (RList w0 v S ps):=HP.out.below HB0.out;clear hb0 HJC;go_wp2_with fail;refine (bb6 v ps _ HR.out (by omega) (by omega)).mono ?_;rintro e w1⟨r,rfl,h1,h2⟩;have HO:Hid _:=Reads.of_owns h1;have HB:=qT HB0 h2;clear h1 h2 HR;go_wp2_with fail;go_ret2;exact⟨r,rfl,HO.out,HB.out⟩
 . rw[cn4];clear hch;generalize (⟨word.toArray⟩:ByteArray)=sx at *;go_enter Tryz.func150,Tryz.ntmps150;go_wp2_with fail;refine (HJC.out _).mono ?_;rintro e w0⟨rfl,hb0⟩;have HB0:Hid (Bq w w0):=i8.trans (hb0.mono (by simp));have HR:Hid (RList w0 v S ps):=HP.out.below HB0.out;clear hb0 HJC;go_wp2_with fail;refine (cf4 v ps _ HR.out (by omega) (by omega)).mono ?_;rintro e w1⟨r,rfl,h1,h2⟩;have HO:Hid _:=h1;have HB:=qT HB0 h2;clear h1 h2 HR;go_wp2_with fail;go_ret2;exact⟨r,rfl,HO.out,HB.out⟩
 . rw[cn5];clear hch;have Oq:=bl0 ps;have Im:∀p∈ps,∀s∈p,s.length<=1000000:=fun p hp s hs=>qw (hsz p hp s hs) (by omega);have hS:=fun(W:World)(h:RList W v S ps)(hE:D6 W)=>sum_is v ps W h (by omega) Im hE;obtain⟨z,hz⟩:=qE (sumOf ps);rw[<- hz]at hS Oq ⊢;have hI:=fun(W:World)(h:V2 W)=>bJ6 z W (by omega) (by omega) h;obtain⟨t,ht⟩:=qE (Lib.itoa (z:Int));rw[<- ht]at hI ⊢;have HS:Hid _:=hS;have HI:Hid _:=hI;clear hS hI hz ht hsz Im;generalize (⟨word.toArray⟩:ByteArray)=sx at *;go_enter Tryz.func150,Tryz.ntmps150;go_wp2_with fail;refine (HJC.out _).mono ?_;rintro e w0⟨rfl,hb0⟩;have HB0:Hid (Bq w w0):=i8.trans (hb0.mono (by simp));have HR:Hid (RList w0 v S ps):=HP.out.below HB0.out;have HEb:Hid (D6 w0):=HE.out.below HB0.out;clear hb0 HJC;go_wp2_with fail;refine (HS.out _ HR.out HEb.out).mono ?_;rintro e w1⟨rfl,h2⟩
   have HK1:Hid (V2 w1):=(D6.below HEb.out h2).1;have HB:=qT HB0 h2;clear h2 HR HEb;go_wp2_with fail;refine (HI.out w1 HK1.out).mono ?_;rintro e w2⟨rfl,h3⟩;have HB2:=qT HB h3;clear h3;go_wp2_with fail;go_ret2;exact⟨_,rfl,by simpa[S]using aq8 w2 #[S t] 9 (0,0) 1 rfl (by omega),HB2.out.trans (((qI _ w2).alloc (qB _) _).mono HB2.out.size)⟩
 .
  rw[cn6];have hc0:=hch rfl;have Pv:=fun(v:Value)(W:World) hr hK=>bt1 ⟨k,word,n⟩ hc0 v ps.flatten W hw hr hl (fun s hs=>by obtain⟨p,hp,hsp⟩:=xz.1 hs;exact hsz p hp s hsp) hK;unfold Cmd.v at Pv;simp only at Pv;have HCV:Hid _:=Pv;clear hch Pv hc0 hsz;generalize made ⟨k,word,n⟩ ps.flatten=M at *;generalize (⟨word.toArray⟩:ByteArray)=sx at *;go_enter Tryz.func150,Tryz.ntmps150;go_wp2_with fail;refine (HJC.out _).mono ?_;rintro e w0⟨rfl,hb0⟩;obtain⟨x0,x1,x2⟩:=aR2 hb0;have HB00:Hid (Bq w w0):=i8.trans (hb0.mono (by simp));have HB0:Hid (Bq w w0.drew):=HB00.out.drew;have HR:Hid (RList w0.drew v S ps):=HP.out.below HB0.out;have HK0:Hid (D6 w0.drew):=HE.out.below HB0.out;clear hb0 HJC;go_upto_region 11 with fail
  go_region_with (first
   | (go_at_call 198;refine (bU4 v ps HR.out (by omega) (by omega) HB0.out x0 x1 x2).mono ?_;rintro e w2⟨r2,rfl,O2,B2,y0,y1,y2⟩)
   | (go_at_call 149;refine (HCV.out r2 w2 O2.out (HK0.out.below B2.out).1).mono ?_;rintro e w3⟨r3,rfl,R3,B3⟩))
  all_goals
   have HR3:Hid _:=R3;have HB3:Hid (Bq w w3):=HB0.out.trans ((B2.out.mono HB0.out.size).trans (B3.mono (qw HB0.out.size B2.out.size)));clear R3 B3;go_wp2_with fail;go_ret2;exact⟨r3,rfl,HR3.out,HB3.out⟩
end Go.Proofs.YtllgglolcgdehaaGreatDoor
