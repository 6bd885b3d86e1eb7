/- What line.Parts does: so many parts of whole lines. -/
import Derived.Test.YtllgglolcgdehaaGreatDoorSAb
import Derived.Deep.RegionWith
import Derived.Laws.BitsLemmas
import Derived.Deep.DeepFit
import Derived.Test.YtllgglolcgdehaaGreatDoorSa01
set_option linter.all false
set_option maxRecDepth 100000
set_option maxHeartbeats 16000000
namespace Go.Proofs.YtllgglolcgdehaaGreatDoor
open Go.RowKit Go.Gs Tryz
theorem bI3:(prog.info? 28).map (fun i=>(i.zero,i.size,i.bytes))=some (some (.slice none 0 0),1,24):=by kernel_rfl
def ah9(ls0:List (List UInt8))(p k:Nat):List UInt8:=ended ((ls0.take ((k+1)*ls0.length / p)).drop (k*ls0.length / p))
theorem be8(v:Value)(ls:List (List UInt8))(w:World)(hr:Reads w v ls.length (ls.map S))(hle:(ended ls).length<=1000000):
 Calls prog 152 #[v] w fun e w'=>∃ao cap,e=.returned (.slice ao (ended ls).length cap) /\
  Reads w' (.slice ao (ended ls).length cap) (ended ls).length ((ended ls).map U)/\Bq w w'/\(∀q m c,Value.slice ao (ended ls).length cap=.slice (some q) m c->w.heap.size<=q.block):=by
 refine (U7 v ls w hr hle).mono ?_;rintro e w'⟨r,rfl,Ab,Aa⟩;have hrd:=Reads.of_owns Ab;obtain⟨_,ao,cap,rfl,_⟩:=id hrd;refine⟨ao,cap,rfl,hrd,Aa,fun q m c hq=>?_⟩;rcases Ab.2 with⟨e1,_⟩|⟨g,cap',cur,e1,hg,_⟩
 . rw[e1]at hq;injection hq with hq;cases hq
 . rw[e1]at hq;injection hq with hq;injection hq with hq;rw[<- hq];exact hg
theorem bn1(v:Value)(ls:List (List UInt8))(w:World)(hr:Reads w v ls.length (ls.map S))(hle:(ended ls).length<=1000000):
 Calls prog 152 #[v] w.drew fun e w'=>∃ao cap,e=.returned (.slice ao (ended ls).length cap) /\
  Reads w' (.slice ao (ended ls).length cap) (ended ls).length ((ended ls).map U)/\Bq w w'/\(∀q m c,Value.slice ao (ended ls).length cap=.slice (some q) m c->w.heap.size<=q.block):=by refine (be8 v ls w.drew (hr.below (qI _ _).drew) hle).mono ?_;rintro e w'⟨ao,cap,rfl,h1,h2,h3⟩;exact⟨ao,cap,rfl,h1,⟨h2.os,h2.tape,h2.output,h2.size,h2.block⟩,h3⟩
def NewV(B:Nat)(u:Value):Prop:=∀q m c,u=.slice (some q) m c->B<=q.block
theorem aC9{w:World}{B:Nat}{e:TypeId}{v:Value}{n:Nat}{xs:List Value}(h:w.ownsRow B e 1 v n xs):NewV B v:=by
 intro q m c hq;rcases h.2 with⟨e1,_⟩|⟨g,cap,cur,e1,hg,_⟩
 . rw[e1]at hq;injection hq with hq;cases hq
 . rw[e1]at hq;injection hq with hq;injection hq with hq;rw[<- hq];exact hg
theorem NewV.mono{B B':Nat}{u:Value}(h:NewV B u)(hb:B'<=B):NewV B' u:=fun q m c e=>qw hb (h q m c e)
theorem bn2(B:Nat){n c:Nat}:NewV B (.slice none n c):=fun q m c' e=>by injection e with e;cases e
def an6(w:World)(ls0:List (List UInt8))(p G g cap k:Nat)(wr:World):Prop:=
 ∃vs,wr.ownsRow w.heap.size 28 1 (.slice (some ⟨G,0,none⟩) p p) p vs/\(∀j,j<k->∃u,vs[j]? = some u/\Reads wr u (ah9 ls0 p j).length ((ah9 ls0 p j).map U)/\NewV w.heap.size u) /\
  (∀j,k<=j->j<p->vs[j]? = some (.slice none 0 0))/\Reads wr (.slice (some ⟨g,0,none⟩) ls0.length cap) ls0.length (ls0.map S)/\Bq w wr
theorem aM6{w wr w3:World}{ls0:List (List UInt8)}{p G g cap k:Nat}(h:an6 w ls0 p G g cap k wr)(hk:k<p)(hb:Bq wr w3):
 w3.cell? ⟨G,k,none⟩=some (.slice none 0 0)/\w3.frozen? ⟨G,k,none⟩=false:=by obtain⟨vs,Ab,_,hz,_,_⟩:=h;have ho3:=D5 Ab hb;exact⟨(ho3.cellAt k (by omega)).trans (hz k (qB _) hk),ho3.frozenAt k⟩
theorem bA2{w wr w3:World}{ls0:List (List UInt8)}{p G g cap k:Nat}{u:Value}(h:an6 w ls0 p G g cap k wr)(hk:k<p)(hb:Bq wr w3)(hu:Reads w3 u (ah9 ls0 p k).length ((ah9 ls0 p k).map U))(hn:NewV wr.heap.size u):
 an6 w ls0 p G g cap (k+1) (w3.setCell ⟨G,k,none⟩ u):=by
 have hc3:=(aM6 h hk hb).1;obtain⟨vs,Ab,hd,hz,hl,Aa⟩:=h;have hvl:vs.length=p:=by simpa using Ab.1
 have ho3:=D5 Ab hb;have hst:=ho3.stored k u;have hGB:w.heap.size<=G:=(Ab.lt G rfl).1;have hnU:∀l:List UInt8,Value.slice none 0 0∉l.map U:=by intro l hm;simp[U]at hm
 have hnS:∀l:List (List UInt8),Value.slice none 0 0∉l.map S:=by intro l hm;simp[S]at hm
 refine⟨vs.set k u,hst.1,?_,?_,?_,?_⟩
 .
  intro j hj;by_cases e:j=k
  . subst e;exact⟨u,by simp[hvl,hk],hu.setCell hc3 _ (hnU _),hn.mono Aa.size⟩
  . obtain⟨x,hx,hrx,hnx⟩:=hd j (by omega);exact⟨x,by rw[xU (fun e'=>e e'.symm)];exact hx,(hrx.below hb).setCell hc3 _ (hnU _),hnx⟩
 . intro j h1 h2;rw[xU (by omega)];exact hz j (by omega) h2
 . exact (hl.below hb).setCell hc3 _ (hnS _)
 . exact (Aa.trans (hb.mono (by have:=Aa.size;omega))).setCell hGB _
theorem bM6(k n p:Nat)(h:k<p)(hn:0<n):k*n / p<n/\k*n / p<=(k+1)*n / p/\(k+1)*n / p<=n:=by
 have hp:0<p:=by omega
 refine⟨?_,?_,?_⟩
 . rw[Nat.div_lt_iff_lt_mul hp,Nat.mul_comm n p];exact Nat.mul_lt_mul_of_pos_right h hn
 . exact Nat.div_le_div_right (Nat.mul_le_mul_right _ (by omega))
 . rw[Nat.div_le_iff_le_mul hp];have:(k+1)*n<=p*n:=Nat.mul_le_mul_right _ (by omega);rw[Nat.mul_comm n p];omega
theorem U8(n:Int)(h:0<=n/\n<=10000000):IntKind.i64.wrap n=n:=by rw[zZ];omega
theorem cr5(k n p:Nat)(hk:k<p)(hp5:p<=5)(hn4:n<=300000):
 0<=(k:Int)*(n:Int)/\(k:Int)*(n:Int)<=1500000/\0<=((k:Int)+1)*(n:Int)/\((k:Int)+1)*(n:Int)<=1500000 /\
 (k:Int)*(n:Int) / (p:Int)=((k*n / p:Nat):Int)/\((k:Int)+1)*(n:Int) / (p:Int)=(((k+1)*n / p:Nat):Int) /\
 ((k:Int)*(n:Int)).tdiv (p:Int)=((k*n / p:Nat):Int)/\(((k:Int)+1)*(n:Int)).tdiv (p:Int)=(((k+1)*n / p:Nat):Int):=by
 have e1:(k:Int)*(n:Int)=((k*n:Nat):Int):=(Int.natCast_mul k n).symm;have e2:((k:Int)+1)*(n:Int)=(((k+1)*n:Nat):Int):=by rw[Int.natCast_mul,Int.natCast_add];rfl
 have h1:k*n<=5*300000:=Nat.mul_le_mul (by omega) hn4;have h2:(k+1)*n<=5*300000:=Nat.mul_le_mul (by omega) hn4;have q1:((k*n:Nat):Int) / (p:Int)=((k*n / p:Nat):Int):=(Int.natCast_ediv _ _).symm;have q2:(((k+1)*n:Nat):Int) / (p:Int)=(((k+1)*n / p:Nat):Int):=(Int.natCast_ediv _ _).symm;rw[e1,e2];refine⟨by omega,by omega,by omega,by omega,q1,q2,?_,?_⟩
 . rw[Int.tdiv_eq_ediv_of_nonneg (by omega)];exact q1
 . rw[Int.tdiv_eq_ediv_of_nonneg (by omega)];exact q2
theorem bn3(g cap:Nat)(ls0:List (List UInt8))(p:Nat)(w:World)(Kx:Reads w (.slice (some ⟨g,0,none⟩) ls0.length cap) ls0.length (ls0.map S))(hlc:ls0.length<=cap)(hcm:cap<=9223372036854775807)(hn0:0<ls0.length)(hn4:ls0.length<=300000)(Cc:(ended ls0).length<=1000000)(hp1:1<=p)(hp5:p<=5):
 Calls prog 148 #[.slice (some ⟨g,0,none⟩) ls0.length cap,.int .i64 (p:Int)] w fun e w'=>∃r vs,e=.returned (.tuple #[r,.int .i64 0]) /\
  w'.ownsRow w.heap.size 28 1 r p vs/\(∀k,k<p->∃u,vs[k]? = some u/\Reads w' u (ah9 ls0 p k).length ((ah9 ls0 p k).map U)/\NewV w.heap.size u)/\Bq w w':=by
 obtain⟨i0,hi,hz0,hz1,hz2⟩:=info_parts bI3;have hb2:i0.bytes*p<=281474976710656:=by rw[hz2];omega
 have hb3:p<=maxLen:=by unfold maxLen;omega
 have hpb1:decide ((p:Int)<1)=false:=by simp;omega
 have hpb2:decide (5<(p:Int))=false:=by simp;omega
 have Sr:=qH Cc;have Ky:Hid (∀k,ah9 ls0 p k=ended ((ls0.take ((k+1)*ls0.length / p)).drop (k*ls0.length / p))):=fun k=>rfl;go_enter Tryz.func148,Tryz.ntmps148;go_wp2_with (at_make;refine wpList_make_full _ rfl (.tmp 17) (.tmp 17) 74 rfl w.heap.size 28 i0 (.slice none 0 0) 1 underlying74 hi hz0 hz1 .i64 .i64 _ _ p rfl rfl rfl rfl hb2 hb3 (qB _) ?_)
 intro w2 Am Ak;have Et:an6 w ls0 p w.heap.size g cap 0 w2:=by have Ek:Bq w w2:=⟨Ak.os,Ak.tape,Ak.output,Ak.size,fun k hk=>Ak.block k hk (by simp)⟩;refine⟨_,Am,fun j hj=>absurd hj (Nat.not_lt_zero _),fun j _ hj=>?_,Kx.below Ek,Ek⟩;rw[zF];simp[hj]
 clear Am Ak Kx;go_wp2_with fail;go_loopw [20] (fun i wr=>∃k:Nat,k<=p/\i=.int .i64 k/\an6 w ls0 p w.heap.size g cap k wr) (fun i _=>p-(intOf i).toNat)
 case atStart=>exact⟨0,qP _,rfl,Et⟩
 case round=>
  obtain⟨k,hk,rfl,hrel⟩:=hrel;by_cases hlt:k<p
  .
   have hlf:=bM6 k ls0.length p hlt hn0;have hP:=Ky.out k;have Jr:Reads wr (.slice (some ⟨g,k*ls0.length / p,none⟩) ((k+1)*ls0.length / p-k*ls0.length / p) (cap-k*ls0.length / p)) ((k+1)*ls0.length / p-k*ls0.length / p) (((ls0.take ((k+1)*ls0.length / p)).drop (k*ls0.length / p)).map S):=by obtain⟨_,_,_,_,hl,_⟩:=id hrel;have:=aC7 hl hlf.2.1 hlf.2.2;rwa [<- List.map_take,<- List.map_drop]at this
   have hel:=ag8 ls0 (k*ls0.length / p) ((k+1)*ls0.length / p);have Ss:((ls0.take ((k+1)*ls0.length / p)).drop (k*ls0.length / p)).length=(k+1)*ls0.length / p-k*ls0.length / p:=by simp;omega
   obtain⟨hm1,hm2,hm3,hm4,hq1,hq2,hq3,hq4⟩:=cr5 k ls0.length p hlt hp5 hn4;have hcz:=fun w3=>aM6 (w3:=w3) hrel hlt;have hst:=fun w3 u=>bA2 (w3:=w3) (u:=u) hrel hlt;rw[hP]at hst;generalize hls:(ls0.take ((k+1)*ls0.length / p)).drop (k*ls0.length / p)=ls at *;generalize hlo:k*ls0.length / p=lo at *;generalize hhi:(k+1)*ls0.length / p=hi' at *;generalize hL:ls0.length=n at *;have Qk:Reads wr (.slice (some ⟨g,lo,none⟩) (hi'-lo) (cap-lo)) ls.length (ls.map S):=by rw[Ss];exact Jr
   have Hlsl:Hid _:=Ss;have Hsub:Hid _:=Qk;have Hcz:Hid _:=hcz;have Hst:Hid _:=hst;have hel':(ended ls).length<=1000000:=by have:=Sr.out;omega
   obtain⟨hlf1,hlf2,hlf3⟩:=hlf;have hw1:IntKind.i64.wrap (lo:Int)=(lo:Int):=U8 _ (by omega);have hw2:IntKind.i64.wrap (hi':Int)=(hi':Int):=U8 _ (by omega);have hw3:IntKind.i64.wrap ((k:Int)*(n:Int))=(k:Int)*(n:Int):=U8 _ ⟨hm1,by omega⟩;have hw4:IntKind.i64.wrap ((k:Int)+1)=(k:Int)+1:=U8 _ (by omega);have hw5:IntKind.i64.wrap (((k:Int)+1)*(n:Int))=((k:Int)+1)*(n:Int):=U8 _ ⟨hm3,by omega⟩;have hcl:¬cap=lo:=by omega
   have hp0:¬p=0:=by omega
   clear Ss Jr Qk hcz hst hP Ky hel hls hlo hhi hL Sr Et hrel;go_wp2_with fail;go_region_with (go_at_call 152;refine (bn1 _ ls _ Hsub.out hel').mono ?_;rintro e w3⟨ao3,cap3,rfl,Kz,Js,hn3⟩;have HN3:Hid _:=hn3;clear hn3;obtain⟨hc3,hf3⟩:=Hcz.out w3 Js)
   have R:Hid _:=Hst.out w3 _ Js Kz HN3.out;clear Kz Js hc3 hf3 HN3;go_wp2;go_roundw
   case rel=>exact⟨k+1,by omega,by go_num,R.out⟩
   case measure=>simp[intOf];omega
  . have hkp:k=p:=by omega
    subst hkp;clear Ky Sr Et;obtain⟨vs,r1,r2,r3,r4,r5⟩:=hrel;have R:Hid _:=And.intro r1 (And.intro r2 r5);clear r1 r2 r3 r4 r5;go_wp2;go_ret2;exact⟨_,vs,rfl,R.out.1,R.out.2.1,R.out.2.2⟩
def ar0(w:World)(p G:Nat)(wr:World):Prop:=
 ∃vs,wr.ownsRow w.heap.size 28 1 (.slice (some ⟨G,0,none⟩) p p) p vs/\(∀j,j<p->vs[j]? = some (.slice none 0 0))/\Bq w wr
theorem bn4{w wr:World}{p G k:Nat}(h:ar0 w p G wr)(hk:k<p):
 wr.cell? ⟨G,k,none⟩=some (.slice none 0 0)/\wr.frozen? ⟨G,k,none⟩=false/\ar0 w p G (wr.drew.setCell ⟨G,k,none⟩ (.slice none 0 0)):=by
 obtain⟨vs,Ab,hz,Aa⟩:=h;have hvl:vs.length=p:=by simpa using Ab.1
 have hd:wr.drew.ownsRow w.heap.size 28 1 (.slice (some ⟨G,0,none⟩) p p) p vs:=D5 Ab (qI _ _).drew;refine⟨(Ab.cellAt k (by omega)).trans (hz k hk),Ab.frozenAt k,vs.set k (.slice none 0 0),(hd.stored k _).1,?_,Aa.drew.setCell (Ab.lt G rfl).1 _⟩;intro j hj;by_cases e:j=k
 . subst e;simp[hvl,hj]
 . rw[xU (fun e'=>e e'.symm)];exact hz j hj
theorem aM7(ao:Option Addr)(cap p:Nat)(w:World)(hp1:1<=p)(hp5:p<=5):
 Calls prog 148 #[.slice ao 0 cap,.int .i64 (p:Int)] w fun e w'=>∃r vs,e=.returned (.tuple #[r,.int .i64 0]) /\
  w'.ownsRow w.heap.size 28 1 r p vs/\(∀k,k<p->vs[k]? = some (.slice none 0 0))/\Bq w w':=by
 obtain⟨i0,hi,hz0,hz1,hz2⟩:=info_parts bI3;have hb2:i0.bytes*p<=281474976710656:=by rw[hz2];omega
 have hb3:p<=maxLen:=by unfold maxLen;omega
 have hpb1:decide ((p:Int)<1)=false:=by simp;omega
 have hpb2:decide (5<(p:Int))=false:=by simp;omega
 go_enter Tryz.func148,Tryz.ntmps148;go_wp2_with (at_make;refine wpList_make_full _ rfl (.tmp 17) (.tmp 17) 74 rfl _ 28 i0 (.slice none 0 0) 1 underlying74 hi hz0 hz1 .i64 .i64 _ _ p rfl rfl rfl rfl hb2 hb3 (qB _) ?_)
 intro w2 Am Ak;have Et:ar0 w p w.heap.size w2:=by refine⟨_,Am,fun j hj=>?_,⟨Ak.os,Ak.tape,Ak.output,Ak.size,fun k hk=>Ak.block k hk (by simp)⟩⟩;rw[zF];simp[hj]
 clear Am Ak;go_wp2_with fail;go_loopw [20] (fun i wr=>∃k:Nat,k<=p/\i=.int .i64 k/\ar0 w p w.heap.size wr) (fun i _=>p-(intOf i).toNat)
 case atStart=>exact⟨0,qP _,rfl,Et⟩
 case round=>
  obtain⟨k,hk,rfl,hrel⟩:=hrel;by_cases hlt:k<p
  .
   obtain⟨hc3,hf3,hst⟩:=bn4 hrel hlt;have Hst:Hid _:=hst;have hw4:IntKind.i64.wrap ((k:Int)+1)=(k:Int)+1:=U8 _ (by omega);have hw0:IntKind.i64.wrap 0=0:=by decide
   have hp0:¬p=0:=by omega
   clear hst hrel Et;go_wp2_with fail;go_region_with (go_at_call 152;refine (av9 _ _ _).mono ?_;rintro e w3⟨rfl,rfl⟩)
   clear hc3 hf3;go_wp2;go_roundw
   case rel=>exact⟨k+1,by omega,by go_num,Hst.out⟩
   case measure=>simp[intOf];omega
  . have hkp:k=p:=by omega
    subst hkp;clear Et;obtain⟨vs,r1,r2,r3⟩:=hrel;have R:Hid _:=And.intro r1 (And.intro r2 r3);clear r1 r2 r3;go_wp2;go_ret2;exact⟨_,vs,rfl,R.out.1,R.out.2.1,R.out.2.2⟩
theorem bM7(v:Value)(B:Nat)(ls0:List (List UInt8))(p:Nat)(w:World)(Ab:w.ownsRow B 9 1 v ls0.length (ls0.map S))(hn4:ls0.length<=300000)(Cc:(ended ls0).length<=1000000)(hp1:1<=p)(hp5:p<=5):
 Calls prog 148 #[v,.int .i64 (p:Int)] w fun e w'=>∃r vs,e=.returned (.tuple #[r,.int .i64 0]) /\
  w'.ownsRow w.heap.size 28 1 r p vs/\(∀k,k<p->∃u,vs[k]? = some u/\Reads w' u (ah9 ls0 p k).length ((ah9 ls0 p k).map U)/\NewV w.heap.size u)/\Bq w w':=by
 have hrd:=Reads.of_owns Ab;rcases Ab.2 with⟨rfl,h0⟩|⟨g,cap,cur,rfl,_,_,h1,h2,_,_⟩
 . have Dh:ls0=[]:=qi h0;subst Dh;refine (aM7 none 0 p w hp1 hp5).mono ?_;rintro e w'⟨r,vs,rfl,o1,o2,o3⟩;refine⟨r,vs,rfl,o1,fun k hk=>⟨_,o2 k hk,?_⟩,o3⟩;have:ah9 [] p k=[]:=by simp[ah9,ended]
   rw[this];exact⟨⟨rfl,none,0,rfl,qB _,by simp[maxLen],fun h=>absurd rfl h⟩,bn2 _⟩
 .
  by_cases hn0:0<ls0.length
  . exact bn3 g cap ls0 p w hrd h1 (by simpa[maxLen]using h2) hn0 hn4 Cc hp1 hp5
  . have Dh:ls0=[]:=qi (by omega);subst Dh;refine (aM7 _ cap p w hp1 hp5).mono ?_;rintro e w'⟨r,vs,rfl,o1,o2,o3⟩;refine⟨r,vs,rfl,o1,fun k hk=>⟨_,o2 k hk,?_⟩,o3⟩;have:ah9 [] p k=[]:=by simp[ah9,ended]
    rw[this];exact⟨⟨rfl,none,0,rfl,qB _,by simp[maxLen],fun h=>absurd rfl h⟩,bn2 _⟩
end Go.Proofs.YtllgglolcgdehaaGreatDoor
