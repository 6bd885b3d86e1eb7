/- What the developers' Do answers, and more. -/
import Derived.Test.YtmejdflmcikkdaaGreatDoorVAb
import Derived.Lib.IfaceNeq
import Derived.Test.YtmejdflmcikkdaaGreatDoorVSh5
import Derived.Test.YtmejdflmcikkdaaGreatDoorVa10
import Derived.Test.YtmejdflmcikkdaaGreatDoorVa11
set_option linter.all false
set_option maxRecDepth 100000
set_option maxHeartbeats 64000000
namespace Go.Proofs.YtmejdflmcikkdaaGreatDoor
open Go.RowKit Go.Gs Tryz
variable {l ls r D bss:qL}{s word x p:qU}{c:Cmd}{w w' W wr:World}{zs:List Int}{e t:TypeId}{size n g off bx G cu k m i:Nat}{v b u:Value}{xs:List Value}{how:Int}{cur:List qL}{a:Option Addr}
theorem ao5(h:s∈l):s.length+1<=(ended l).length:=by
 induction l with
 | nil=>cases h
 | cons t l ih=>
  rw[F8];simp only[qI,ql,xI];rcases zD.1 h with rfl | h
  . omega
  . have:=ih h;omega
theorem bF0(h:chk c=0)(hk:uses c.kind=2):1<=c.n/\c.n<=1000:=by
 unfold chk at h;rw[hk]at h;by_cases h1:c.n<1\/1000<c.n
 . simp[h1]at h;split at h <;> cases h
 . omega
def Q9 (w:World):Prop:=(∃m,w.cell? ⟨0,0,none⟩=some (.int .i64 m))/\Lib.TabIs prog w "internal/strconv.uint64pow10" .u64 Lib.pow10Tab
theorem tab_below{n:String}{k:IntKind}(h:Lib.TabIs prog w n k zs)(hb:Bq w w'):Lib.TabIs prog w' n k zs:=by
 unfold Lib.TabIs World.var? at h ⊢
 cases hg:prog.globalNamed n with
 | none=>rw[hg]at h;cases h
 | some g=>
  rw[hg]at h;simp only[Option.bind_some]at h ⊢;have hlt:g<w.heap.size:=by
   rcases xo g w.heap.size with h' | h'
   . exact h'
   . rw[xR h']at h;cases h
  rw[hb.block g hlt];exact h
theorem Q9.below(h:Q9 w)(hb:Bq w w'):Q9 w':=by obtain⟨⟨m,hm⟩,ht⟩:=h;exact⟨⟨m,qC hb hm⟩,tab_below ht hb⟩
theorem aX1{B B':Nat}(h:w.ownsRow B e size v n xs)(hB:B'<=B):w.ownsRow B' e size v n xs:=by
 refine⟨h.1,?_⟩;rcases h.2 with h0 | ⟨g,cap,cur,h1,h2,h3⟩
 . exact .inl h0
 . exact .inr ⟨g,cap,cur,h1,qO,h3⟩
theorem bn5(h:word.length=2):∃a b,word=[a,b]:=by
 match word,h with
 | [a,b],_=>exact⟨a,b,rfl⟩
theorem cb6(c:Cmd)(hc:chk c=0)(v:Value)(ls:qL)(w:World)(B:Nat)(hB0:0 < B)(hB:B<=w.heap.size)(Ab:w.ownsRow B 9 1 v ls.length (ls.map S))(hl:ls.length<=75000000)(hsz:∀s∈ls,s.length<=75000000)(hK:Q9 w):
 Calls prog 195 #[c.v,v] w fun e w'=>∃r,e=.returned r/\Reads w' r (made c ls).length ((made c ls).map S)/\Below B w w':=by
 have hk:=aB7 c hc;have Gh:=bF0 hc;have hsw:=bR7 hc;obtain⟨⟨m,hm⟩,htab⟩:=hK;have Jn:∀s∈ls,s.length<=250000000:=fun s hs=>qc (hsz s hs) qO;have Og:∀{P:World->Value->Prop} ,(Calls prog 195 #[c.v,v] w fun e w'=>∃r,e=.returned r/\P w' r/\Bq w w')->(Calls prog 195 #[c.v,v] w fun e w'=>∃r,e=.returned r/\P w' r/\Below B w w'):=by intro P h;refine h.mono ?_;rintro e w'⟨r,rfl,h1,h2⟩;exact⟨r,rfl,h1,h2.mono hB⟩
 obtain⟨k,word,n⟩:=c;have:k=1\/k=2\/k=3\/k=4\/k=5\/k=6\/k=7\/k=8\/k=9\/k=10:=by simp only at hk;omega
 rcases this with rfl | rfl | rfl | rfl | rfl | rfl | rfl | rfl | rfl | rfl
 . rw[made1 _ rfl];exact bJ9 word n m v ls w B hB0 hB Ab hl Jn hm
 . rw[made2 _ rfl];exact bK0 word n m v ls w B hB0 hB Ab hl Jn hm
 . rw[made3 _ rfl];obtain⟨a,b,rfl⟩:=bn5 (hsw rfl).1;exact bL1 a b n v ls w B hB Ab hl hsz
 . rw[bD7 _ rfl];obtain⟨h1,h2⟩:=Gh rfl;exact bx9 ⟨word.toArray⟩ n m v ls w B hB0 hB Ab hl hsz h1 h2 hm
 . rw[bD8 _ rfl];exact bK9 ⟨word.toArray⟩ n v ls w B hB Ab hl hsz
 . rw[aI8 _ rfl];exact bJ7 ⟨word.toArray⟩ n v ls w B hB Ab hl
 . rw[bR4 _ rfl];exact bJ8 ⟨word.toArray⟩ n v ls w B hB Ab hl
 . rw[bR5 _ rfl];obtain⟨_,ao,cap,rfl,_⟩:=Reads.of_owns Ab;exact Og (by0 ⟨word.toArray⟩ n ao ls.length cap w hl (fun W h=>tab_below htab h))
 . rw[bR6 _ rfl];obtain⟨h1,h2⟩:=Gh rfl;exact Og (bJ5 ⟨word.toArray⟩ n v ls w B Ab hl h1 h2)
 . rw[bt5 _ rfl];obtain⟨h1,h2⟩:=Gh rfl;exact Og (bJ6 ⟨word.toArray⟩ n v ls w B Ab hl h1 h2)
def aN4(w:World)(g:Nat):Prop:=∃ev,w.cell? ⟨g,0,none⟩=some ev/\(ev=.nilIface\/∃te pe,ev=.iface te pe)
theorem aN4.below(h:aN4 w g)(hb:Bq w w'):aN4 w' g:=by obtain⟨ev,h1,h2⟩:=h;exact⟨ev,qC hb h1,h2⟩
def q8(w:World):Prop:=Q9 w/\aN4 w 3 /\ aN4 w 4
theorem q8.below(h:q8 w)(hb:Bq w w'):q8 w':=⟨h.1.below hb,h.2.1.below hb,h.2.2.below hb⟩
theorem bf1(n:Int)(w:World)(h0:-9223372036854775808<=n)(h1:n<=9223372036854775807)(hK:Q9 w):
 Calls prog 89 #[.int .i64 n] w fun e w'=>e=.returned (.string ⟨(Lib.itoa n).toArray⟩)/\Bq w w':=by refine (Tryz.strconv_Itoa n h0 h1 w hK.2).mono ?_;rintro e w1⟨rfl,q,os,hw1⟩;exact⟨rfl,by rw[hw1];exact af1 _ _ (qA _)⟩
theorem aF1(h:w'=w\/∃t,w'=Lib.bytesWorld w 5 t):Bq w w':=by
 rcases h with rfl | ⟨t,rfl⟩
 . exact Below.refl _ _
 . exact Lib.bytesWorld_below _ _ _
theorem cb8(s:ByteArray)(n:Int)(w:World)(hs:s.size<=281474976710656)(h:Lib.atoiAll s.data.toList=.ok n):
 Calls prog 247 #[.string s] w fun e w'=>e=.returned (.tuple #[.int .i64 n,.nilIface])/\Bq w w':=by refine (Tryz.strconv_Atoi_ok s qO n h w).mono ?_;rintro e w'⟨rfl,hw⟩;exact⟨rfl,aF1 hw⟩
theorem bV2(s:ByteArray)(w:World)(hs:s.size<=281474976710656)(hE:q8 w)(h:∀n,Lib.atoiAll s.data.toList≠.ok n):
 Calls prog 247 #[.string s] w fun e w'=>∃z t p,e=.returned (.tuple #[.int .i64 z,.iface t p])/\Bq w w':=by
 cases hc:Lib.atoiAll s.data.toList with
 | ok n=>exact absurd hc (h n)
 | «syntax»=>obtain⟨ev,h1,h2⟩:=hE.2.1;refine (Tryz.strconv_Atoi_syntax s hs hc ev w h1 h2).mono ?_;rintro e w'⟨N,rfl,_,_,hb⟩;exact⟨_,_,_,rfl,hb⟩
 | range=>obtain⟨ev,h1,h2⟩:=hE.2.2;refine (Tryz.strconv_Atoi_range s hs hc ev w h1 h2).mono ?_;rintro e w'⟨N,rfl,_,_,hb⟩;exact⟨_,_,_,rfl,hb⟩
theorem bL3(s:qU)(w:World)(hs:s.length<=250000000)(hE:q8 w):
 Calls prog 236 #[.string ⟨s.toArray⟩] w fun e w'=>e=.returned (.int .i64 (numOf s:Int))/\Bq w w':=by
 have hd:(⟨s.toArray⟩:ByteArray).data.toList=s:=rfl;have hsz:(⟨s.toArray⟩:ByteArray).size=s.length:=by simp[ByteArray.size]
 by_cases hok:∃n,Lib.atoiAll s=.ok n
 .
  obtain⟨n,hn⟩:=hok;have hb:=Lib.atoiAll_bounds hn;have hA:=cb8 ⟨s.toArray⟩ n w qO (by rw[hd];exact hn);have hN:=an1 hn;have hI:=fun(W:World)(h:Q9 W)=>bf1 n W hb.1 hb.2 h;have HE:=qH hE;by_cases h0:n<0
  . have HN:=qH (show numOf s=0 by rw[hN,qB qO]);clear hN hI hE hd hsz;go_enter func236,ntmps236;go_wp2_with fail;refine hA.mono ?_;rintro e w1⟨rfl,hb1⟩;have HB:=qH hb1;clear hb1 hA;go_wp2_with fail;go_ret;exact⟨by rw[HN.o];rfl,HB.o⟩
  .
   by_cases h1:4000<n
   . have HN:=qH (show numOf s=0 by rw[hN,qB qO]);clear hN hI hE hd hsz;go_enter func236,ntmps236;go_wp2_with fail;refine hA.mono ?_;rintro e w1⟨rfl,hb1⟩;have HB:=qH hb1;clear hb1 hA;go_wp2_with fail;go_ret;exact⟨by rw[HN.o];rfl,HB.o⟩
   .
    have hI':∀(W:World),Q9 W->Calls prog 89 #[.int .i64 n] W fun e w'=>∃tx:ByteArray,e=.returned (.string tx)/\Hid (Value.string tx=S (Lib.itoa n))/\Bq W w':=by intro W hK;refine (hI W hK).mono ?_;rintro e w'⟨rfl,hb⟩;exact⟨_,rfl,rfl,hb⟩
    obtain⟨sx,hsx⟩:=qE (⟨s.toArray⟩:ByteArray);have HSX:Hid (Value.string sx=S s):=by rw[hsx];exact rfl
    rw[<- hsx]at hA ⊢;have HN:Hid _:=hN;have HI:Hid _:=hI';have HNn:Hid (0<=n/\n<=4000):=⟨qO,qO⟩;clear hN hI hI' hE hd hsz hsx;go_enter func236,ntmps236;go_wp2_with fail;refine hA.mono ?_;rintro e w1⟨rfl,hb1⟩;have HB:=qH hb1;clear hb1 hA;go_wp2_with fail;refine (HI.o w1 (HE.o.below HB.o).1).mono ?_;rintro e w2⟨tx,rfl,htx,hb2⟩;have HB2:=qT HB hb2;clear hb2;by_cases heq:Lib.itoa n=s
    .
     have hbe:(tx.toList==sx.toList)=true:=by rw[K4 htx.out,K4 HSX.o,heq];simp
     have HD:=qH (show (numOf s:Int)=n by
      rw[HN.o,qF ⟨HNn.o.1,HNn.o.2,heq⟩]
      have:=HNn.o.1
      omega)
     clear heq;go_wp2_with fail;go_ret;exact⟨by rw[HD.o];rfl,HB2.o⟩
    . have hbe:(tx.toList==sx.toList)=false:=by rw[K4 htx.out,K4 HSX.o];simpa using heq
      have HD:=qH (show (numOf s:Int)=0 by
       rw[HN.o,qB (fun h=>heq h.2.2)]
       rfl)
      clear heq;go_wp2_with fail;go_ret;exact⟨by rw[HD.o];rfl,HB2.o⟩
 . have hA:=bV2 ⟨s.toArray⟩ w qO hE (by rw[hd];exact fun n h=>hok ⟨n,h⟩);have HN:Hid (numOf s=0):=ah8 (fun n h=>hok ⟨n,h⟩);clear hok hE hd hsz;go_enter func236,ntmps236;go_wp2_with fail;refine hA.mono ?_;rintro e w1⟨z,t,p,rfl,hb1⟩;have HB:=qH hb1;clear hb1 hA;go_wp2_with fail;go_ret;exact⟨by rw[HN.o];rfl,HB.o⟩
theorem bo0:S0 []=0:=rfl
theorem X7(x:qU)(r:qL):S0 (x::r)=numOf x:=by unfold S0;rw[zo,xG,zE]
theorem aN5{a c:Value}(h:Below (w.alloc (.cells #[a,b,c] t)).heap.size (w.alloc (.cells #[a,b,c] t)) w'):w'.cell? ⟨w.heap.size,0,none⟩=some a/\w'.cell? ⟨w.heap.size,1,none⟩=some b/\w'.cell? ⟨w.heap.size,2,none⟩=some c:=by
 refine⟨?_,?_,?_⟩
 all_goals
  rw[h.cell (by simp),qY _ _ _ _ _ _ (qJ w _)];rfl
theorem sum_is(v:Value)(ps:List qL)(w:World)(hp:RList w v S ps)(hn:ps.length<=1000)(hsz:∀p∈ps,∀s∈p,s.length<=250000000)(hE:q8 w):
 Calls prog 198 #[v] w fun e w'=>e=.returned (.int .i64 (sumOf ps:Int))/\Bq w w':=by
 obtain⟨ao,cap,rfl,hc1,hc2⟩:=hp.shape;have HP:=qH hp;obtain⟨N,hN⟩:=qE ps.length;have HN:=qH hN;have hN4:N<=1000:=qO;have HE:=qH hE;have HSZ:Hid _:=hsz;rw[<- hN];clear hN hp hn hc1 hc2 hE hsz;go_enter func198,ntmps198;go_wp2_with fail
 go_loopw [3,8] (fun s i wr=>∃k:Nat,∃m:Nat,k<=N/\m<=4000*k/\i=.int .i64 k/\s=.int .i64 m/\Hid (Bq w wr)/\Hid (m=sumOf (ps.take k)))
  (fun _ i _=>N-(intOf i).toNat)
 case atStart=>exact⟨0,0,qM _,qO,rfl,rfl,Below.refl _ _,(show _=_ from by simp[sumOf])⟩
 case round=>
  obtain⟨k,m,hk,hm,rfl,rfl,Aa,hmk⟩:=hrel;by_cases hlt:k<N
  .
   obtain⟨p,hpk⟩:∃p,ps[k]?=some p:=⟨_,gEl (by have:=HN.o;omega)⟩;have HPr:Hid (RList wr (.slice ao N cap) S ps):=by rw[HN.o];exact HP.o.below Aa.o
   obtain⟨b,off,au,cu,rfl,Ac,hru⟩:=HPr.o.at hpk;have HS:=qH (show m+S0 p=sumOf (ps.take (k+1)) from by rw[bt9 hpk,<- hmk.out]);have hpm:p∈ps:=mGt hpk
   cases p with
   | nil=>
    simp only[xI]at Ac;rw[bo0]at HS;clear hpk hru hmk hpm;go_wp2_with fail;go_roundw
    case rel=>exact⟨k+1,m,qO,qO,by go_num,rfl,Aa,HS⟩
    case measure=>simp[intOf];omega
   | cons x r=>
    obtain⟨b1,o1,sx,rfl,hc1,hsx,Yh,Qx⟩:=M9 hru;obtain rfl:sx=⟨x.toArray⟩:=by unfold S at hsx;injection hsx
    have Gh:=bL3 x wr (HSZ.o _ hpm x (by simp)) (HE.o.below Aa.o);have hle:=bj1 x;rw[X7]at HS;have hpl:(x::r).length=r.length+1:=rfl;rw[hpl]at Ac Qx;clear hsx hru hpl hpk hmk hpm;generalize r.length=rl,numOf x=z at *;go_wp2_with (go_at_call 236;refine Gh.mono ?_;rintro e w1⟨rfl,hb1⟩)
    have HB1:=qT Aa hb1;clear hb1 Gh;go_wp2_with fail;go_roundw
    case rel=>exact⟨k+1,m+z,qO,qO,by go_num,by go_num,HB1,HS⟩
    case measure=>simp[intOf];omega
  .
   have hkN:k=N:=qO
   have HD:=qH (show m=sumOf ps from by
    have h:=hmk.out
    rw[hkN,HN.o,qj]at h
    exact h)
   clear hmk;go_wp2_with fail;go_ret;refine⟨?_,Aa.o⟩;rw[<- HD.o];rfl
theorem aN6(h:how<1\/4<how):jchk how c=4:=by unfold jchk;rw[qF h]
theorem aN7:jchk 4 c=chk c:=by unfold jchk;rw[qB qO,qF rfl]
theorem aX2(h1:1<=how)(h2:how<4)(h:c.kind=0/\c.word=[]/\c.n=0):jchk how c=0:=by unfold jchk;rw[qB qO,qB qO,qF h]
theorem aX3(h1:1<=how)(h2:how<4)(h:¬(c.kind=0/\c.word=[]/\c.n=0)):jchk how c=4:=by unfold jchk;rw[qB qO,qB qO,qB h]
theorem aX4(how:Int)(c:Cmd)(w:World)(hw:c.word.length<=9223372036854775807):
 Calls prog 162 #[.int .i64 how,c.v] w fun e w'=>e=.returned (.int .i64 (jchk how c))/\Bq w w':=by
 have Ax:=fun W=>aM0 c W hw;have hem:=@empty_of c.word;have hfu:=@full_of c.word;obtain⟨k,word,n⟩:=c;unfold Cmd.v at Ax ⊢;simp only at Ax hem hfu ⊢;by_cases hr:how<1\/4<how
 .
  rw[aN6 hr];clear Ax hem hfu;generalize (⟨word.toArray⟩:ByteArray)=sx at *;rcases hr with hr | hr
  . go_enter func162,ntmps162;go_wp2_with fail;go_ret;exact⟨rfl,g9⟩
  . have hr':¬how<1:=qO;go_enter func162,ntmps162;go_wp2_with fail;go_ret;exact⟨rfl,g9⟩
 .
  by_cases h4:how=4
  . subst h4;rw[aN7];clear hem hfu;generalize (⟨word.toArray⟩:ByteArray)=sx,chk ⟨k,word,n⟩=r at *;go_enter func162,ntmps162;go_wp2_with fail;refine (Ax _).mono ?_;rintro e w1⟨rfl,hb1⟩;have HB:Hid (Bq w w1):=g9.trans (hb1.mono (by simp));clear hb1 Ax;go_wp2_with fail;go_ret;exact⟨rfl,HB.o⟩
  .
   have h1:¬how<1:=qO;have h2:¬4<how:=qO;clear Ax hr;by_cases hz:k=0/\word=[]/\n=0
   . obtain⟨rfl,rfl,rfl⟩:=hz;rw[aX2 qO qO ⟨rfl,rfl,rfl⟩];clear hem hfu;go_enter func162,ntmps162;go_wp2_with fail;go_ret;exact⟨rfl,g9⟩
   .
    rw[aX3 qO qO hz];obtain⟨d,hd⟩:∃d,(⟨word.toArray⟩:ByteArray).toList.isEmpty=d:=⟨_,rfl⟩;have Ed:¬(k=0/\d=true/\n=0):=by
     rintro⟨h1,h2,h3⟩;apply hz;refine⟨h1,?_,h3⟩
     cases word with
     | nil=>rfl
     | cons x r=>rw[hfu (by simp)]at hd;rw[<- hd]at h2;cases h2
    clear hz hem hfu;generalize (⟨word.toArray⟩:ByteArray)=sx at *;go_enter func162,ntmps162;go_wp2_with fail;all_goals first|(go_ret;exact⟨rfl,g9⟩)|(exfalso;apply Ed;simp_all)
theorem cb9{b:Nat}(hc:∀j u,(ls.map S)[j]?=some u->w.cell? ⟨b,off+j,none⟩=some u):∀j,j<(ls.map fun l=>(⟨l.toArray⟩:ByteArray)).length->w.cell? ⟨b,off+j,none⟩=some (.string ((ls.map fun l=>(⟨l.toArray⟩:ByteArray)).getD j ByteArray.empty)):=by
 intro j hj;have hj':j<ls.length:=by simpa using hj
 have:=hc j (S ls[j]) (by simp[hj']);rw[this];simp[S,List.getD_eq_getElem?_getD,hj']
theorem bV3(v:Value)(ls:qL)(w:World)(hr:Reads w v ls.length (ls.map S))(hl:ls.length<=250000000):
 Calls prog 196 #[v] w fun e w'=>∃r,e=.returned r/\w'.ownsRow w.heap.size 9 1 r ls.length (ls.map S)/\Bq w w':=by
 obtain⟨_,ao,cap,rfl,h2,h3,h4⟩:=hr
 cases ao with
 | none=>
  have h0:ls.length=0:=by
   rcases za ls.length with h | h
   . exact h
   . obtain⟨b,off,e,_⟩:=h4 qO;cases e
  have hn:ls=[]:=qn h0;subst hn;refine (Any.slices_Clone_string_nil Tryz.laysClone _ cap w).mono ?_;rintro e w'⟨rfl,rfl⟩;exact⟨_,rfl,World.ownsRow_nil _ _ _ _,Below.refl _ _⟩
 | some a=>
  by_cases h0:ls.length=0
  . have hn:ls=[]:=qn h0;subst hn;refine (Any.slices_Clone_string_zero Tryz.laysClone a cap w).mono ?_;rintro e w'⟨r,rfl,h5,_,h6⟩;exact⟨_,rfl,h5,h6⟩
  . obtain⟨b,off,e,hc⟩:=h4 h0;injection e with e;subst e;refine (Any.slices_Clone_string Tryz.laysClone b off ls.length cap (ls.map fun l=>⟨l.toArray⟩) w (by simp) qO (cb9 hc)).mono ?_;rintro e w'⟨r,rfl,h5,_,h6⟩;refine⟨_,rfl,?_,h6⟩;have he:((ls.map fun l=>(⟨l.toArray⟩:ByteArray)).take ls.length).map Value.string=ls.map S:=by rw[qP (by simp),zP];rfl
    rw[he]at h5;exact h5
theorem bV4{a c:Value}(v:Value)(ls:qL)(hr:Reads W v ls.length (ls.map S))(hl:ls.length<=250000000)(hB:Bq w W)(h0:W.cell? ⟨bx,0,none⟩=some a)(h1:W.cell? ⟨bx,1,none⟩=some b)(h2:W.cell? ⟨bx,2,none⟩=some c):
 Calls prog 196 #[v] W fun e w'=>∃r,e=.returned r/\Hid (w'.ownsRow W.heap.size 9 1 r ls.length (ls.map S))/\Hid (Bq W w')/\w'.cell? ⟨bx,0,none⟩=some a/\w'.cell? ⟨bx,1,none⟩=some b/\w'.cell? ⟨bx,2,none⟩=some c:=by refine (bV3 v ls W hr hl).mono ?_;rintro e w'⟨r,rfl,h3,h4⟩;have hlt:bx<W.heap.size:=bLt W _ h0;exact⟨r,rfl,h3,h4,(h4.cell (p:=⟨bx,0,none⟩) hlt).trans h0,(h4.cell (p:=⟨bx,1,none⟩) hlt).trans h1,(h4.cell (p:=⟨bx,2,none⟩) hlt).trans h2⟩
theorem bo1(c:Cmd)(hc:chk c=0)(v:Value)(ls:qL)(w:World)(hw:c.word.length<=9223372036854775807)(hr:Reads w v ls.length (ls.map S))(hl:ls.length<=75000000)(hsz:∀s∈ls,s.length<=75000000)(hK:Q9 w):
 Calls prog 148 #[c.v,v] w fun e w'=>∃r,e=.returned (.tuple #[r,.int .i64 0])/\Reads w' r (made c ls).length ((made c ls).map S)/\Bq w w':=by
 have Ax:=fun W=>aM0 c W hw;rw[hc]at Ax;have Ff:=fun(v:Value)(W:World)(B:Nat) hB0 hB ho hK=>cb6 c hc v ls W B hB0 hB ho hl hsz hK;have hml:0 < w.heap.size:=by obtain⟨⟨m,hm⟩,_⟩:=hK;exact bLt w _ hm
 obtain⟨k,word,n⟩:=c;unfold Cmd.v at Ax Ff ⊢;simp only at Ax Ff ⊢;have HR:=qH hr;have HO:Hid _:=Ff;have HK:=qH hK;have HM:Hid _:=hml;clear hr Ff hK hml;generalize made ⟨k,word,n⟩ ls=M,(⟨word.toArray⟩:ByteArray)=sx at *;go_enter func148,ntmps148;go_wp2_with fail;refine (Ax _).mono ?_;rintro e w1⟨rfl,hb1⟩;obtain⟨x0,x1,x2⟩:=aN5 hb1;have HB:Hid (Bq w w1):=g9.trans (hb1.mono (by simp));clear hb1 Ax;go_upto_region 4 with fail;have HBd:Hid (Bq w w1.drew):=HB.o.drew;have HRd:Hid (Reads w1.drew v ls.length (ls.map S)):=HR.o.below HBd.o
 go_region_with (first
  | (go_at_call 196;refine (bV4 v ls HRd.o qO HBd.o x0 x1 x2).mono ?_;rintro e w2⟨r2,rfl,O2,B2,y0,y1,y2⟩)
  | (go_at_call 195;refine (HO.o r2 w2 w1.heap.size (zJ HM.o HB.o.size) B2.o.size O2.o ((HK.o.below HBd.o).below B2.o)).mono ?_;rintro e w3⟨r3,rfl,R3,B3⟩))
 all_goals
  have HR3:Hid _:=R3;have HB3:Hid (Bq w w3):=HBd.o.trans ((B2.o.mono HBd.o.size).trans (B3.mono HB.o.size));clear R3 B3;go_wp2_with fail;go_ret2;exact⟨r3,rfl,HR3.o,HB3.o⟩
def LRow(w wr:World)(G:Nat)(cur:List qL):Prop:=
 ∃vs:List Value,wr.heap[G]?=some (.cells vs.toArray 110 (0,0))/\vs.length=cur.length/\∀(j:Nat)(p:qL),cur[j]?=some p->∃u,vs[j]?=some u/\Reads w u p.length (p.map S)
theorem LRow.rlist(h:LRow w wr G cur)(hb:Bq w wr)(hn:cur.length<=1000):RList wr (.slice (some ⟨G,0,none⟩) cur.length cur.length) S cur:=by
 obtain⟨vs,h1,h2,h3⟩:=h;refine⟨vs,⟨h2,_,_,rfl,qA _,by unfold maxLen;omega,fun _=>⟨G,0,rfl,fun j u hu=>?_⟩⟩,fun j p hj=>?_⟩
 . rw[qk,qY _ _ _ _ _ _ h1];simpa using hu
 . obtain⟨u,h4,h5⟩:=h3 j p hj;exact⟨u,h4,h5.below hb⟩
theorem LRow.keep{wr':World}(h:LRow w wr G cur)(hk:wr'.heap[G]?=wr.heap[G]?):LRow w wr' G cur:=by obtain⟨vs,h1,h2,h3⟩:=h;exact⟨vs,by rw[hk];exact h1,h2,h3⟩
theorem bL4{b:Nat}(h:Reads w (.slice (some ⟨b,off,none⟩) n cu) (x::r).length ((x::r).map S))(a':Option Addr)(ha:cu≠1->a'=some ⟨b,off+1,none⟩):Reads w (.slice a' r.length (cu-1)) r.length (r.map S):=by obtain⟨h1,ao,cap,e,h2,h3,h4⟩:=h;injection e with e1 e2 e3;subst e1 e3;simp only[ql]at h2;refine⟨by simp,a',cu-1,rfl,qO,qc (Nat.sub_le _ _) h3,fun hr=>?_⟩;obtain⟨b',off',e,hc⟩:=h4 (by simp);injection e with e;injection e with e1 e2;subst e1 e2;refine⟨b,off+1,ha qO,fun j u hu=>?_⟩;rw[zK,Nat.add_comm 1 j];exact hc (j+1) u (by simpa using hu)
theorem LRow.step{b:Nat}(h:LRow w wr G cur)(hk:cur[k]?=some (x::r))(hr:Reads w (.slice (some ⟨b,off,none⟩) n cu) (x::r).length ((x::r).map S))(a':Option Addr)(ha:cu≠1->a'=some ⟨b,off+1,none⟩):LRow w (wr.setCell ⟨G,k,none⟩ (.slice a' r.length (cu-1))) G (cur.modify k (List.drop 1)):=by
 obtain⟨vs,h1,h2,h3⟩:=h;obtain⟨hkl,_⟩:=gSm hk;refine⟨vs.set k (.slice a' r.length (cu-1)),?_,by simp[h2],fun j p hj=>?_⟩
 . rw[heap_setCell_same _ _ _ _ _ _ h1];simp
 .
  rw[List.getElem?_modify]at hj;by_cases hjk:k=j
  . subst hjk;rw[hk]at hj;simp at hj;subst hj;exact⟨_,zu qO,bL4 hr a' ha⟩
  . simp[hjk]at hj;obtain⟨u,h4,h5⟩:=h3 j p hj;exact⟨u,by rw[xe hjk];exact h4,h5⟩
theorem LRow.at(h:LRow w wr G cur)(hk:cur[k]?=some (x::r)):∃b off cu sx,wr.cell? ⟨G,k,none⟩=some (.slice (some ⟨b,off,none⟩) (r.length+1) cu)/\Reads w (.slice (some ⟨b,off,none⟩) (r.length+1) cu) (x::r).length ((x::r).map S)/\w.cell? ⟨b,off,none⟩=some (.string sx)/\Value.string sx=S x/\r.length+1<=cu/\cu<=9223372036854775807:=by obtain⟨vs,h1,h2,h3⟩:=h;obtain⟨u,h4,h5⟩:=h3 k _ hk;obtain⟨_,ao,cap,rfl,_⟩:=id h5;obtain⟨b,off,sx,rfl,hc,hs,h6,h7⟩:=M9 h5;refine⟨b,off,cap,sx,?_,h5,hc,hs,h7,h6⟩;rw[qY _ _ _ _ _ _ h1];simpa using h4
theorem aN8(h:least cur=some (k,x)):V6 (m+1) cur=x::V6 m (cur.modify k (List.drop 1)):=by
 conv=>lhs;unfold V6
 rw[h]
theorem bV5:(prog.info? 110).map (fun i=>(i.zero,i.size,i.bytes))=some (some (.slice none 0 0),1,24):=qQ
theorem bL5:(prog.info? 110).map (·.size)=some 1:=qQ
theorem cc0(hi:D.length=i):((D.map S++List.replicate (m+1) (S [])).toArray).setIfInBounds i (S x)=((D++[x]).map S++List.replicate m (S [])).toArray:=by rw[List.setIfInBounds_toArray,zG _ _ (by simp;omega)];simp[hi,List.replicate_succ]
def MRel(w wr:World)(ps:List qL)(T GL GO:Nat)(i:Nat):Prop:=
 ∃(D:qL)(cur:List qL),D.length=i/\cur.length=ps.length/\cur.flatten.length=T-i/\D++V6 (T-i) cur=V6 T ps/\LRow w wr GL cur/\wr.heap[GO]?=some (.cells (D.map S++List.replicate (T-i) (S [])).toArray 9 (0,0))/\Bq w wr
theorem bV6(v:Value)(ps:List qL)(w:World)(hp:RList w v S ps)(hn:ps.length<=1000)(hb:ps.flatten.length<=250000000):
 Calls prog 197 #[v] w fun e w'=>∃r,e=.returned r/\Reads w' r (V7 ps).length ((V7 ps).map S)/\Bq w w':=by
 obtain⟨i0,hi,hz0,hz1,hz2⟩:=info_parts J9;obtain⟨i1,hi',hy0,hy1,hy2⟩:=info_parts bV5;have Bv:=fun(W:World)(h:Bq w W)=>bl2 v ps W (hp.below h) hn qO;obtain⟨ao,cap,rfl,hc1,hc2⟩:=hp.shape;have HP:=qH hp;obtain⟨N,hN⟩:=qE ps.length;have HN:=qH hN;have hN4:N<=1000:=qO;obtain⟨T,hT⟩:=qE ps.flatten.length;have HT:=qH hT;have hTb:T<=250000000:=qO;have hb2:i0.bytes*T<=281474976710656:=by rw[hz2];omega
 have hb3:T<=maxLen:=by unfold maxLen;omega
 have hb4:i1.bytes*N<=281474976710656:=by rw[hy2];omega
 have hb5:N<=maxLen:=by unfold maxLen;omega
 rw[<- hT,<- hN]at Bv;rw[<- hN];have HCt:Hid _:=Bv;clear hN hp hn hc1 hc2 hT hb Bv;go_enter func197,ntmps197;go_wp2_with (at_make;refine wpList_make_full _ rfl (.tmp 8) (.tmp 8) 192 rfl w.heap.size 110 i1 (.slice none 0 0) 1 underlying192 hi' hy0 hy1 .i64 .i64 _ _ N rfl rfl rfl rfl hb4 hb5 (qA _) ?_)
 intro w1 Oj Dk;have HB1:Hid (Bq w w1):=below_grown Dk (qA _);have Vl:w.heap.size<w1.heap.size:=by
  have:=(V2 Oj).1;rcases xo w.heap.size w1.heap.size with h | h
  . exact h
  . rw[xR h]at this;cases this
 obtain⟨L0,hL0⟩:=qE (List.replicate N (.slice none 0 0:Value));have hL0l:L0.length=N:=by rw[hL0];simp
 have HR1:Hid (w1.heap[w.heap.size]?=some (.cells L0.toArray 110 (0,0))):=by have:=(V2 Oj).1;rw[xK,<- hL0]at this;exact this
 clear Oj Dk hL0;obtain⟨us,Vp,Zq⟩:=id HP.o;have Vq:us.length=N:=by rw[HN.o];exact Vp.1
 have HU2:Hid _:=Zq;have HU1:Hid _:=Vp;clear Vp Zq;go_wp2_with (refine wpList_copy_splice rfl (.tmp 10) (.tmp 11) 192 192 rfl 110 underlying192 bL5 (some ⟨w.heap.size,0,none⟩) ao N N N cap rfl rfl w.heap.size 0 L0 110 HR1.o us ?c1 ?c2 ?c3 ?c4 w.heap.size w HB1.o (qA _) ?_)
 case c1=>rw[Vq];exact (Nat.min_self N).symm
 case c2=>
  intro h0;obtain⟨_,ao',cap',e,_,_,h5⟩:=HU1.o;injection e with e1 e2 e3;obtain⟨b',off',e4,hc⟩:=h5 (by rw[<- HN.o];omega);refine⟨⟨b',off',none⟩,e1.trans e4,fun j u hu=>?_⟩;have Ce:(⟨b',off',none⟩:Addr).add j=⟨b',off'+j,none⟩:=by unfold Addr.add;split <;> simp_all
  rw[Ce];have hcj:=hc j u hu;exact qC HB1.o hcj
 case c3=>omega
 case c4=>intro u hu;obtain⟨j,hj,rfl⟩:=List.mem_iff_getElem.1 hu;obtain⟨u',h1,h2⟩:=HU2.o j (ps[j]'(by have:=HN.o;omega)) (gEl _);rw[gEl hj]at h1;injection h1 with h1;obtain⟨_,ao',cap',e,_⟩:=h2;rw[h1,e];rfl
 intro w2 hr2 Ee;have HB2:=qH Ee;have Ux:w.heap.size<w2.heap.size:=by
  have:=hr2.out;rcases xo w.heap.size w2.heap.size with h | h
  . exact h
  . rw[xR h]at this;cases this
 have HL2:Hid (LRow w w2 w.heap.size ps):=⟨us,by
  have:=hr2.out
  rw[this]
  congr 3
  unfold splice
  rw[List.take_zero,zR,qk,qi qO,xz],by rw[Vq];exact HN.o,HU2.o⟩
 clear hr2 Ee HU1 HU2 Vq HR1;go_wp2_with (first|(go_at_call 234;refine (HCt.o w2 HB2.o).mono ?_;rintro e w9⟨rfl,hw9⟩;obtain rfl:w2=w9:=hw9.symm)|(at_make;refine wpList_make_full _ rfl (.tmp 14) (.tmp 14) 110 rfl w2.heap.size 9 i0 (.string ⟨#[]⟩) 1 underlying110 hi hz0 hz1 .i64 .i64 _ _ T rfl rfl rfl rfl hb2 hb3 (qA _) ?_))
 intro w3 Fg Bf;have HB3:Hid (Bq w w3):=HB2.o.trans (below_grown Bf (Nat.le_of_lt Ux));have HM3:Hid (MRel w w3 ps T w.heap.size w2.heap.size 0):=by refine⟨[],ps,rfl,rfl,by rw[<- HT.o];rfl,rfl,HL2.o.keep ((below_grown Bf (qA _)).block _ Ux),?_,HB3.o⟩;have:=(V2 Fg).1;rw[xK]at this;exact this
 clear Fg Bf HL2 HB3 HB2 HB1 hw9 HCt;generalize hGO:w2.heap.size=GO at *;clear hGO;go_wp2_with fail;go_loopw [18] (fun i wr=>∃k:Nat,k<=T/\i=.int .i64 k/\Hid (MRel w wr ps T w.heap.size GO k)) (fun i _=>T-(intOf i).toNat)
 case atStart=>exact⟨0,qM _,rfl,HM3.o⟩
 case round=>
  obtain⟨i,hiT,rfl,hrel⟩:=hrel;obtain⟨D,cur,hD,hcl,hfl,hmg,hlr,hor,Aa⟩:=hrel.out;clear hrel;by_cases hlt:i<T
  .
   obtain⟨k,x,hlx⟩:∃k x,least cur=some (k,x):=by
    cases h:least cur with
    | none=>rw[av9 h]at hfl;simp at hfl;omega
    | some q=>exact⟨q.1,q.2,rfl⟩
   obtain⟨r,hck,_⟩:=least_some hlx;have hkl:k<cur.length:=(gSm hck).1;obtain⟨b,off,cu,sx,hcG,hru,hcx,hsx,Yh,Qx⟩:=hlr.at hck;have hle:=bT2 _ cur wr (hlr.rlist Aa (by have:=HN.o;omega)) (by have:=HN.o;omega);rw[hcl,<- HN.o,hlx]at hle;have Zr:wr.cell? ⟨b,off,none⟩=some (.string sx):=qC Aa hcx;have hne:GO≠w.heap.size:=qO;obtain⟨m,hm⟩:∃m,T-i=m+1:=⟨T-i-1,qO⟩;have hTi:T-(i+1)=m:=qO;rw[hm]at hfl hmg hor;have Zt:Hid (∀(w4:World),w4.heap=wr.heap->Bq w w4->∀a',(cu≠1->a'=some ⟨b,off+1,none⟩)->MRel w ((w4.setCell ⟨GO,i,none⟩ (.string sx)).setCell ⟨w.heap.size,k,none⟩ (.slice a' r.length (cu-1))) ps T w.heap.size GO (i+1)):=by
    intro w4 h4 hb4 a' ha;refine⟨D++[x],cur.modify k (List.drop 1),by simp[hD],by simp[hcl],?_,?_,?_,?_,?_⟩
    . have:=aa0 hck;rw[hTi];omega
    . rw[hTi,<- hmg,aN8 hlx];simp
    . refine LRow.step ?_ hck hru a' ha;exact hlr.keep (by rw[heap_setCell_other _ _ _ _ (Ne.symm hne),h4])
    . rw[heap_setCell_other _ _ _ _ hne,heap_setCell_same _ _ _ _ _ _ (by rw[h4];exact hor),hTi,hsx,cc0 hD]
    . exact (hb4.setCell (by simp;omega) _).setCell (by simp) _
   have hcO:wr.cell? ⟨GO,i,none⟩=some (S []):=by rw[qY _ _ _ _ _ _ hor];simp[hD]
   have hfO:wr.frozen? ⟨GO,i,none⟩=false:=xW _ _ _ _ _ hor;have hfG:wr.frozen? ⟨w.heap.size,k,none⟩=false:=by obtain⟨vs,h1,_⟩:=hlr;exact xW _ _ _ _ _ h1
   have Hsx:Hid _:=hsx;have HB:=qH Aa;have hkN:k<N:=by have:=HN.o;omega
   simp only[lix]at hle;clear hsx Aa hlr hor hmg hru hcx hfl hcl hD hck hlx hkl;generalize r.length=rl at *;go_wp2_with (go_at_call 235;refine hle.mono ?_;rintro e w4⟨rfl,q,rfl⟩)
   have g1:(wr.drewN q).cell? ⟨w.heap.size,k,none⟩=some (.slice (some ⟨b,off,none⟩) (rl+1) cu):=hcG;have g2:(wr.drewN q).cell? ⟨b,off,none⟩=some (.string sx):=Zr;have g3:(wr.drewN q).cell? ⟨GO,i,none⟩=some (S []):=hcO;have g4:(wr.drewN q).frozen? ⟨GO,i,none⟩=false:=hfO;have g5:(wr.drewN q).frozen? ⟨w.heap.size,k,none⟩=false:=hfG;have g6:((wr.drewN q).setCell ⟨GO,i,none⟩ (.string sx)).cell? ⟨w.heap.size,k,none⟩=some (.slice (some ⟨b,off,none⟩) (rl+1) cu):=by rw[World.cell?_setCell_other _ _ _ _ (by intro e;injection e with e;exact hne e)];exact g1
   have g7:((wr.drewN q).setCell ⟨GO,i,none⟩ (.string sx)).frozen? ⟨w.heap.size,k,none⟩=false:=by rw[World.frozen?_setCell];exact g5
   have HR4:Hid _:=Zt.o (wr.drewN q) rfl (I9 HB.o _);clear hcG Zr hcO hfO hfG hle Zt;go_wp2_with fail;go_roundw
   case rel=>exact⟨i+1,qO,by go_num,HR4.o _ (fun h=>by rw[qB h])⟩
   case measure=>simp[intOf];omega
  .
   have Zu:i=T:=qO;have HO:Hid (Reads wr (.slice (some ⟨GO,0,none⟩) T T) (V7 ps).length ((V7 ps).map S)):=by
    rw[Zu,xt]at hmg hor;have e:D=V7 ps:=by
     have:D++V6 0 cur=D:=by simp[V6]
     rw[this]at hmg;rw[hmg];unfold V7;rw[HT.o]
    simp only[List.replicate_zero,xz]at hor;have h1:=am9 (B:=0) (n:=T) hor (by simp[hD,Zu]) (qM _) qO;have h2:=Reads.of_owns h1;have h3:(V7 ps).length=T:=by rw[<- e];omega
    rw[h3,<- e];exact h2
   have HB:=qH Aa;clear hmg hor hlr hfl Aa hD hcl;go_wp2_with fail;go_ret;exact⟨_,rfl,HO.o,HB.o⟩
theorem bV7(h:jchk how c=0):how=1\/how=2\/how=3\/how=4:=by
 unfold jchk at h;by_cases hr:how<1\/4<how
 . rw[qF hr]at h;cases h
 . omega
theorem bF2(c:Cmd)(ps:List qL):joined 1 c ps=ps.flatten:=by simp[joined]
theorem bF3(c:Cmd)(ps:List qL):joined 2 c ps=V7 ps:=by simp[joined]
theorem bF4(c:Cmd)(ps:List qL):joined 3 c ps=[Lib.itoa (sumOf ps:Int)]:=by simp[joined]
theorem bF5(c:Cmd)(ps:List qL):joined 4 c ps=made c ps.flatten:=by simp[joined]
theorem bL6{a c:Value}(v:Value)(ps:List qL)(hp:RList W v S ps)(hn:ps.length<=1000)(hl:ps.flatten.length<=250000000)(hB:Bq w W)(h0:W.cell? ⟨bx,0,none⟩=some a)(h1:W.cell? ⟨bx,1,none⟩=some b)(h2:W.cell? ⟨bx,2,none⟩=some c):
 Calls prog 199 #[v] W fun e w'=>∃r,e=.returned r/\Hid (Reads w' r ps.flatten.length (ps.flatten.map S))/\Hid (Bq W w')/\w'.cell? ⟨bx,0,none⟩=some a/\w'.cell? ⟨bx,1,none⟩=some b/\w'.cell? ⟨bx,2,none⟩=some c:=by refine (aW0 v ps W hp hn hl).mono ?_;rintro e w'⟨r,rfl,h3,h4⟩;have hlt:bx<W.heap.size:=bLt W _ h0;exact⟨r,rfl,Reads.of_owns h3,h4,(h4.cell (p:=⟨bx,0,none⟩) hlt).trans h0,(h4.cell (p:=⟨bx,1,none⟩) hlt).trans h1,(h4.cell (p:=⟨bx,2,none⟩) hlt).trans h2⟩
theorem bV8(how:Int)(c:Cmd)(hj:jchk how c=0)(v:Value)(ps:List qL)(w:World)(hw:c.word.length<=9223372036854775807)(hp:RList w v S ps)(hn:ps.length<=5)(hl:ps.flatten.length<=75000000)(hsz:∀p∈ps,∀s∈p,s.length<=75000000)(hE:q8 w):
 Calls prog 149 #[.int .i64 how,c.v,v] w fun e w'=>∃r,e=.returned (.tuple #[r,.int .i64 0])/\Reads w' r (joined how c ps).length ((joined how c ps).map S)/\Bq w w':=by
 have Gi:=bV7 hj;have hch:=aJ1 hj;have hjc:=fun W=>aX4 how c W hw;rw[hj]at hjc;obtain⟨k,word,n⟩:=c;unfold Cmd.v at hjc ⊢;simp only at hw hjc ⊢;have HJC:Hid _:=hjc;clear hjc;have HP:=qH hp;have HE:=qH hE;clear hp hE hj;rcases Gi with rfl | rfl | rfl | rfl
 . rw[bF2];clear hch;generalize (⟨word.toArray⟩:ByteArray)=sx at *;go_enter func149,ntmps149;go_wp2_with fail;refine (HJC.o _).mono ?_;rintro e w0⟨rfl,hb0⟩;have HB0:Hid (Bq w w0):=g9.trans (hb0.mono (by simp));have HR:Hid (RList w0 v S ps):=HP.o.below HB0.o;clear hb0 HJC;go_wp2_with fail;refine (aW0 v ps _ HR.o qO qO).mono ?_;rintro e w1⟨r,rfl,h1,h2⟩;have HO:Hid _:=Reads.of_owns h1;have HB:=qT HB0 h2;clear h1 h2 HR;go_wp2_with fail;go_ret2;exact⟨r,rfl,HO.o,HB.o⟩
 . rw[bF3];clear hch;generalize (⟨word.toArray⟩:ByteArray)=sx at *;go_enter func149,ntmps149;go_wp2_with fail;refine (HJC.o _).mono ?_;rintro e w0⟨rfl,hb0⟩;have HB0:Hid (Bq w w0):=g9.trans (hb0.mono (by simp));have HR:Hid (RList w0 v S ps):=HP.o.below HB0.o;clear hb0 HJC;go_wp2_with fail;refine (bV6 v ps _ HR.o qO qO).mono ?_;rintro e w1⟨r,rfl,h1,h2⟩;have HO:Hid _:=h1;have HB:=qT HB0 h2;clear h1 h2 HR;go_wp2_with fail;go_ret2;exact⟨r,rfl,HO.o,HB.o⟩
 . rw[bF4];clear hch;have Qs:=bj2 ps;have Jn:∀p∈ps,∀s∈p,s.length<=250000000:=fun p hp s hs=>qc (hsz p hp s hs) qO;have hS:=fun(W:World)(h:RList W v S ps)(hE:q8 W)=>sum_is v ps W h qO Jn hE;obtain⟨z,hz⟩:=qE (sumOf ps);rw[<- hz]at hS Qs ⊢;have hI:=fun(W:World)(h:Q9 W)=>bf1 z W qO qO h;obtain⟨t,ht⟩:=qE (Lib.itoa (z:Int));rw[<- ht]at hI ⊢;have HS:Hid _:=hS;have HI:Hid _:=hI;clear hS hI hz ht hsz Jn;generalize (⟨word.toArray⟩:ByteArray)=sx at *;go_enter func149,ntmps149;go_wp2_with fail;refine (HJC.o _).mono ?_;rintro e w0⟨rfl,hb0⟩;have HB0:Hid (Bq w w0):=g9.trans (hb0.mono (by simp));have HR:Hid (RList w0 v S ps):=HP.o.below HB0.o;have HEb:Hid (q8 w0):=HE.o.below HB0.o;clear hb0 HJC;go_wp2_with fail;refine (HS.o _ HR.o HEb.o).mono ?_;rintro e w1⟨rfl,h2⟩;have HK1:Hid (Q9 w1):=(q8.below HEb.o h2).1;have HB:=qT HB0 h2;clear h2 HR HEb;go_wp2_with fail;refine (HI.o w1 HK1.o).mono ?_;rintro e w2⟨rfl,h3⟩;have HB2:=qT HB h3;clear h3;go_wp2_with fail;go_ret2;exact⟨_,rfl,by simpa[S]using Y9 w2 #[S t] 9 (0,0) 1 rfl qO,HB2.o.trans (((Below.refl _ w2).alloc (qA _) _).mono HB2.o.size)⟩
 .
  rw[bF5];have hc0:=hch rfl;have Rk:=fun(v:Value)(W:World) hr hK=>bo1 ⟨k,word,n⟩ hc0 v ps.flatten W hw hr hl (fun s hs=>by obtain⟨p,hp,hsp⟩:=zv.1 hs;exact hsz p hp s hsp) hK;unfold Cmd.v at Rk;simp only at Rk;have HCV:Hid _:=Rk;clear hch Rk hc0 hsz;generalize made ⟨k,word,n⟩ ps.flatten=M,(⟨word.toArray⟩:ByteArray)=sx at *;go_enter func149,ntmps149;go_wp2_with fail;refine (HJC.o _).mono ?_;rintro e w0⟨rfl,hb0⟩;obtain⟨x0,x1,x2⟩:=aN5 hb0;have HB00:Hid (Bq w w0):=g9.trans (hb0.mono (by simp));have HB0:Hid (Bq w w0.drew):=HB00.o.drew;have HR:Hid (RList w0.drew v S ps):=HP.o.below HB0.o;have HK0:Hid (q8 w0.drew):=HE.o.below HB0.o;clear hb0 HJC;go_upto_region 11 with fail
  go_region_with (first
   | (go_at_call 199;refine (bL6 v ps HR.o qO qO HB0.o x0 x1 x2).mono ?_;rintro e w2⟨r2,rfl,O2,B2,y0,y1,y2⟩)
   | (go_at_call 148;refine (HCV.o r2 w2 O2.o (HK0.o.below B2.o).1).mono ?_;rintro e w3⟨r3,rfl,R3,B3⟩))
  all_goals
   have HR3:Hid _:=R3;have HB3:Hid (Bq w w3):=HB0.o.trans ((B2.o.mono HB0.o.size).trans (B3.mono (qc HB0.o.size B2.o.size)));clear R3 B3;go_wp2_with fail;go_ret2;exact⟨r3,rfl,HR3.o,HB3.o⟩
theorem cc1:(prog.info? 110).map (fun i=>(i.zero,i.size,i.bytes))=some (some (.slice none 0 0),1,24):=qQ
def GRel(w wr:World)(bss:qL)(G i:Nat):Prop:=
 ∃vs:List Value,wr.heap[G]?=some (.cells vs.toArray 110 (0,0))/\vs.length=bss.length/\(∀(j:Nat)(p:qU),j<i->bss[j]?=some p->∃u,vs[j]?=some u/\Reads wr u (lines p).length ((lines p).map S))/\(∀j,i<=j->j<bss.length->vs[j]?=some (.slice none 0 0))/\Bq w wr
theorem az7{c:Nat}:Value.slice a n c∉l.map S:=by
 intro h;obtain⟨x,_,e⟩:=xA.1 h
 cases e
theorem GRel.cell(h:GRel w wr bss G i)(hi:i<bss.length):wr.cell? ⟨G,i,none⟩=some (.slice none 0 0)/\wr.frozen? ⟨G,i,none⟩=false/\G<wr.heap.size:=by
 obtain⟨vs,h1,h2,h3,h4,h5⟩:=h;refine⟨?_,xW _ _ _ _ _ h1,?_⟩
 . rw[qY _ _ _ _ _ _ h1];simpa using h4 i (qA _) hi
 . rcases xo G wr.heap.size with h | h
   . exact h
   . rw[xR h]at h1;cases h1
theorem GRel.below{w1:World}(h:GRel w wr bss G i)(hb:Bq wr w1)(hG:G<wr.heap.size):GRel w w1 bss G i:=by obtain⟨vs,h1,h2,h3,h4,h5⟩:=h;refine⟨vs,by rw[hb.block G hG];exact h1,h2,fun j p hj hp=>?_,h4,h5.trans (hb.mono h5.size)⟩;obtain⟨u,h6,h7⟩:=h3 j p hj hp;exact⟨u,h6,h7.below hb⟩
theorem GRel.step(h:GRel w wr bss G i)(hp:bss[i]?=some p)(hu:Reads wr u (lines p).length ((lines p).map S))(hG:w.heap.size<=G):GRel w (wr.setCell ⟨G,i,none⟩ u) bss G (i+1):=by
 have hi:i<bss.length:=(gSm hp).1;obtain⟨hc,_,_⟩:=h.cell hi;obtain⟨vs,h1,h2,h3,h4,h5⟩:=h;refine⟨vs.set i u,by rw[heap_setCell_same _ _ _ _ _ _ h1];simp,by simp[h2],fun j q hj hq=>?_,fun j hj hjl=>?_,h5.setCell hG _⟩
 .
  by_cases hji:i=j
  . subst hji;rw[hp]at hq;injection hq with hq;subst hq;exact⟨u,zu qO,hu.setCell hc u az7⟩
  . obtain⟨u',h6,h7⟩:=h3 j q qO hq;exact⟨u',by rw[xe hji];exact h6,h7.setCell hc u az7⟩
 . rw[xe qO];exact h4 j qO hjl
theorem GRel.done(h:GRel w wr bss G i)(hi:i=bss.length)(hn:bss.length<=1000):RList wr (.slice (some ⟨G,0,none⟩) bss.length bss.length) S (bss.map lines):=by
 subst hi;obtain⟨vs,h1,h2,h3,h4,h5⟩:=h;refine⟨vs,⟨by simp[h2],_,_,by rw[qS],by simp,by unfold maxLen;omega,fun _=>⟨G,0,rfl,fun j u hu=>?_⟩⟩,fun j p hj=>?_⟩
 . rw[qk,qY _ _ _ _ _ _ h1];simpa using hu
 .
  rw[qa]at hj
  cases hb:bss[j]? with
  | none=>rw[hb]at hj;cases hj
  | some q=>rw[hb]at hj;simp only[xG,qe]at hj;subst hj;exact h3 j q (gSm hb).1 hb
theorem bV9(v:Value)(bss:qL)(w:World)(hp:RList w v U bss)(hn:bss.length<=5)(hT:bss.flatten.length<=75000000):
 Calls prog 150 #[v] w fun e w'=>∃r,e=.returned r/\RList w' r S (bss.map lines)/\Bq w w':=by
 obtain⟨ao,cap,rfl,hc1,hc2⟩:=hp.shape;have hcm:cap<=9223372036854775807:=by simpa[maxLen]using hc2
 have HP:=qH hp;have HTb:=qH hT;obtain⟨i1,hi',hy0,hy1,hy2⟩:=info_parts cc1;obtain⟨N,hN⟩:=qE bss.length;have HN:=qH hN;have hN5:N<=5:=qO;have hb4:i1.bytes*N<=281474976710656:=by rw[hy2];omega
 have hb5:N<=maxLen:=by unfold maxLen;omega
 rw[<- hN];rw[<- hN]at hc1;clear hp hn hT hN hc2;go_enter func150,ntmps150;go_wp2_with (at_make;refine wpList_make_full _ rfl (.tmp 7) (.tmp 7) 192 rfl w.heap.size 110 i1 (.slice none 0 0) 1 underlying192 hi' hy0 hy1 .i64 .i64 _ _ N rfl rfl rfl rfl hb4 hb5 (qA _) ?_)
 intro w3 Fg Bf;have HD3:Hid (GRel w w3 bss w.heap.size 0):=by
  refine⟨List.replicate N (.slice none 0 0),?_,by simp[HN.o],fun j p hj=>absurd hj (zm _),fun j _ hj=>?_,below_grown Bf (qA _)⟩
  . have:=(V2 Fg).1;rw[xK]at this;exact this
  . rw[xP,qF (by rw[HN.o];exact hj)]
 clear Fg Bf;go_wp2_with fail;go_loopw [11] (fun i wr=>∃k:Nat,k<=N/\i=.int .i64 k/\Hid (GRel w wr bss w.heap.size k)) (fun i _=>N-(intOf i).toNat)
 case atStart=>exact⟨0,qM _,rfl,HD3.o⟩
 case round=>
  obtain⟨i,hiN,rfl,hrel⟩:=hrel;have HBr:Hid (Bq w wr):=by obtain⟨vs,_,_,_,_,h5⟩:=hrel.out;exact h5
  by_cases hlt:i<N
  .
   obtain⟨p,hpk⟩:∃p,bss[i]?=some p:=⟨_,gEl (by have:=HN.o;omega)⟩;have HPr:Hid (RList wr (.slice ao N cap) U bss):=by rw[HN.o];exact HP.o.below HBr.o
   obtain⟨b,off,au,cu,rfl,Ac,hru⟩:=HPr.o.at hpk;have hpl:p.length<=75000000:=qc (A3 (mGt hpk)) HTb.o;have hof:=aB5 _ p wr hru qO;have HPK:Hid _:=hpk;obtain⟨hcG,hfG,hG⟩:=hrel.out.cell (by have:=HN.o;omega);clear hpk hru;generalize p.length=pl at *;go_wp2_with fail;refine hof.mono ?_;rintro e w4⟨l,rfl,Ld,Zv⟩;have HR4:Hid (Reads w4 l (lines p).length ((lines p).map S)):=Reads.of_owns Ld;have hD4:=hrel.out.below Zv hG;obtain⟨hcG4,hfG4,hG4⟩:=hD4.cell (by have:=HN.o;omega);have HD5:Hid (GRel w (w4.setCell ⟨w.heap.size,i,none⟩ l) bss w.heap.size (i+1)):=hD4.step HPK.o HR4.o (qA _);obtain⟨_,al,cl,rfl,_⟩:=id HR4.o;clear Ld Zv hrel hD4 hof hcG hfG Ac;go_wp2_with fail;go_roundw
   case rel=>exact⟨i+1,qO,by go_num,HD5.o⟩
   case measure=>simp[intOf];omega
  .
   have hiN':i=N:=qO
   have HF:=qH (show RList wr (.slice (some ⟨w.heap.size,0,none⟩) N N) S (bss.map lines) by
    have h:=hrel.out.done (by rw[<- HN.o];exact hiN') (by rw[<- HN.o];omega)
    rw[<- HN.o]at h
    exact h)
   clear hrel;go_wp2_with fail;go_ret;exact⟨_,rfl,HF.o,HBr.o⟩
end Go.Proofs.YtmejdflmcikkdaaGreatDoor
