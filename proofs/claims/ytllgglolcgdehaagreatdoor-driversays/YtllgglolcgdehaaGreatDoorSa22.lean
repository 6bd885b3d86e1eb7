/- What the developers' join's behind does, and more. -/
import Derived.Test.YtllgglolcgdehaaGreatDoorSAb
import Derived.Lib.IfaceNeq
import Derived.Test.YtllgglolcgdehaaGreatDoorSSh5
import Derived.Test.YtllgglolcgdehaaGreatDoorSa20
set_option linter.all false
set_option maxRecDepth 100000
set_option maxHeartbeats 16000000
namespace Go.Proofs.YtllgglolcgdehaaGreatDoor
open Go.RowKit Go.Gs Tryz
theorem aa5{w:World}{B:Nat}{t:TypeId}{G n:Nat}{xs:List Value}(h:w.ownsRow B t 1 (.slice (some ⟨G,0,none⟩) n n) n xs):w.heap[G]? = some (.cells xs.toArray t (0,0))/\xs.length=n/\B<=G:=by
 obtain⟨h1,h2 | ⟨g,cap,cur,h2,h3,h4,h5,h6,h7,h8⟩⟩:=h
 . cases h2.1
 . injection h2 with e1 e2 e3;injection e1 with e1;injection e1 with e1;subst e1 e3;have hx:cur=xs.toArray:=by rw[<- h8,qO (by simp;omega)]
   exact⟨by rw[h4,hx],by omega,h3⟩
theorem ap7{w:World}{B:Nat}{t:TypeId}{G n:Nat}{xs:List Value}(h:w.heap[G]? = some (.cells xs.toArray t (0,0)))(hl:xs.length=n)(hB:B<=G)(hm:n<=1000000):w.ownsRow B t 1 (.slice (some ⟨G,0,none⟩) n n) n xs:=
 ⟨by omega,.inr ⟨G,n,xs.toArray,rfl,hB,h,qB _,by unfold maxLen;omega,by simp[hl],by rw[Nat.mul_one,<- hl];simp⟩⟩
theorem below_grown{B:Nat}{w w1:World}(h:w.grownBy w1 none)(hB:B<=w.heap.size):Below B w w1:=⟨h.os,h.tape,h.output,h.size,fun k hk=>h.block k (by omega) (by simp)⟩
theorem ce7{ps:List (List (List UInt8))}{k:Nat}{p:List (List UInt8)}(h:ps[k]? = some p):splice (((ps.take k).flatten).map S++List.replicate (ps.flatten.length-((ps.take k).flatten).length) (S [])) ((ps.take k).flatten).length (p.map S)=((ps.take (k+1)).flatten).map S++List.replicate (ps.flatten.length-((ps.take (k+1)).flatten).length) (S []):=by have h1:=aw0 h;rw[aq9 h];generalize ((ps.take k).flatten)=A at *;unfold splice;rw[xF (by simp),qO (by simp),List.drop_append,qt (by simp)];simp only[qM,xn,List.drop_replicate,qz,qG,qp];congr 3;omega
theorem ce8:(prog.info? 9).map (·.size)=some 1:=by kernel_rfl
theorem bb6(v:Value)(ps:List (List (List UInt8)))(w:World)(hp:RList w v S ps)(hn:ps.length<=1000)(hb:ps.flatten.length<=1000000):
 Calls prog 198 #[v] w fun e w'=>∃r,e=.returned r/\w'.ownsRow w.heap.size 9 1 r ps.flatten.length (ps.flatten.map S)/\Bq w w':=by
 obtain⟨i0,hi,hz0,hz1,hz2⟩:=info_parts N6;have Aw:=bm9 v ps w hp hn (by omega);obtain⟨ao,cap,rfl,hc1,hc2⟩:=hp.shape;have HP:=qH hp;obtain⟨N,hN⟩:=qE ps.length;have HN:=qH hN;have hN4:N<=1000:=by omega
 obtain⟨T,hT⟩:=qE ps.flatten.length;have HT:=qH hT;have hTb:T<=1000000:=by omega
 have hb2:i0.bytes*T<=281474976710656:=by rw[hz2];omega
 have hb3:T<=maxLen:=by unfold maxLen;omega
 rw[<- hT,<- hN]at Aw;rw[<- hT,<- hN];clear hN hp hn hc1 hc2 hT hb;go_enter Tryz.func198,Tryz.ntmps198;go_wp2_with (first|(go_at_call 251;refine Aw.mono ?_;rintro e w9⟨rfl,hw9⟩;obtain rfl:w=w9:=hw9.symm)|(at_make;refine wpList_make_full _ rfl (.tmp 8) (.tmp 8) 53 rfl w.heap.size 9 i0 (.string ⟨#[]⟩) 1 underlying53 hi hz0 hz1 .i64 .i64 _ _ T rfl rfl rfl rfl hb2 hb3 (qB _) ?_))
 intro w2 Am Ak;have HB2:Hid (Bq w w2):=below_grown Ak (qB _);have HR2:Hid (w2.heap[w.heap.size]? = some (.cells ((((ps.take 0).flatten).map S++List.replicate (T-0) (S [])).toArray) 9 (0,0))):=by have:=(aa5 Am).1;rw[zF]at this;exact this
 clear Am Ak hw9 Aw;go_wp2_with fail
 go_loopw [4,13] (fun s i wr=>∃k m:Nat,∃ro,k<=N/\m<=T/\i=.int .i64 k/\s=.slice ro (T-m) (T-m)/\(m<T->ro=some ⟨w.heap.size,m,none⟩)/\Hid (m=((ps.take k).flatten).length)/\Hid (wr.heap[w.heap.size]? = some (.cells ((((ps.take k).flatten).map S++List.replicate (T-m) (S [])).toArray) 9 (0,0)))/\Hid (Bq w wr))
  (fun _ i _=>N-(intOf i).toNat)
 case atStart=>exact⟨0,0,_,qP _,qP _,rfl,rfl,fun _=>rfl,(show _=_ from by simp),HR2.out,HB2.out⟩
 case round=>
  obtain⟨k,m,ro,hk,hm,rfl,rfl,hro,hmk,An,Aa⟩:=hrel;by_cases hlt:k<N
  .
   obtain⟨p,hpk⟩:∃p,ps[k]? = some p:=⟨_,gEl (by have:=HN.out;omega)⟩;have Oq:m+p.length<=T:=by have h1:=aw0 hpk;have h2:=hmk.out;have h3:=HT.out;omega
   have HS:=qH (show m+p.length=((ps.take (k+1)).flatten).length from by rw[aq9 hpk,qG,<- hmk.out]);have HSp:Hid _:=ce7 hpk;have HPr:Hid (RList wr (.slice ao N cap) S ps):=by rw[HN.out];exact HP.out.below Aa.out
   obtain⟨b,off,au,cu,rfl,Ac,hru⟩:=HPr.out.at hpk;obtain⟨L,hL⟩:=qE (((ps.take k).flatten).map S++List.replicate (T-m) (S []));have HL:=qH hL;have hLl:L.length=T:=by rw[hL,qG,qM,List.length_replicate,<- hmk.out];omega
   obtain⟨cs,hcs⟩:=qE (p.map S);have hcl:cs.length=p.length:=by rw[hcs];simp
   have HC:=qH hcs;have HRU:Hid _:=hru;have Rb:wr.heap[w.heap.size]? = some (.cells L.toArray 9 (0,0)):=by rw[hL];exact An.out
   have HROW:Hid _:=Rb;clear hpk An hL hcs hru Rb;obtain⟨pl,hpl⟩:=qE p.length;have HPL:=qH hpl;rw[<- hpl]at Ac Oq hcl;clear hpl;go_wp2_with (refine wpList_copy_splice rfl (.tmp 18) (.tmp 19) 53 53 rfl 9 underlying53 ce8 ro au (T-m) (T-m) pl cu rfl rfl w.heap.size m L 9 HROW.out cs ?c1 ?c2 ?c3 ?c4 w.heap.size w Aa.out (qB _) ?_)
   case c1=>rw[hcl];exact (ql (by omega)).symm
   case c2=>
    intro h0;refine⟨hro (by omega),?_⟩;obtain⟨_,ao',cap',e,_,_,h5⟩:=HRU.out;injection e with e1 e2 e3;obtain⟨b',off',e4,hc⟩:=h5 (by rw[<- HPL.out];omega);refine⟨⟨b',off',none⟩,e1.trans e4,fun j u hu=>?_⟩;have Dp:(⟨b',off',none⟩:Addr).add j=⟨b',off'+j,none⟩:=by unfold Addr.add;split <;> simp_all
    rw[Dp];exact hc j u (by rw[<- HC.out];exact hu)
   case c3=>omega
   case c4=>intro u hu;rw[HC.out]at hu;obtain⟨x,_,rfl⟩:=qg.1 hu;rfl
   intro w3 hr3 Js;have HB3:=qH Js
   have HR3:=qH (show w3.heap[w.heap.size]? = some (.cells ((((ps.take (k+1)).flatten).map S++List.replicate (T-(m+pl)) (S [])).toArray) 9 (0,0)) from by
    have e1:=hr3.out
    have e2:=HSp.out
    rw[<- hmk.out,<- HT.out,<- HL.out,<- HC.out,<- HS.out,<- HPL.out]at e2
    rw[e1,e2])
   clear hr3 Js;go_wp2_with fail;go_roundw
   case rel=>exact⟨k+1,m+pl,_,by omega,by omega,by go_num,by rw[Nat.sub_add_eq],fun h=>by simp only[hro (by omega),Addr.add];simp;rw[qA (by omega)];by_cases h0:pl=0 <;> simp[h0],(show _=_ from by rw[<- HS.out,HPL.out]),HR3.out,HB3.out⟩
   case measure=>simp[intOf];omega
  .
   have hkN:k=N:=by omega
   have HO:Hid (wr.ownsRow w.heap.size 9 1 (.slice (some ⟨w.heap.size,0,none⟩) T T) T (ps.flatten.map S)):=by
    have h1:=An.out;have h2:=hmk.out;rw[hkN,HN.out,qZ]at h1 h2;have h3:T-m=0:=by have:=HT.out;omega
    rw[h3]at h1;simp only[List.replicate_zero,xH]at h1;exact ap7 h1 (by rw[qM];exact HT.out.symm) (qB _) (by omega)
   clear An hmk;go_wp2_with fail;go_ret;exact⟨_,rfl,HO.out,Aa.out⟩
def bb7(w:World)(g:Nat):Prop:=∃ev,w.cell? ⟨g,0,none⟩=some ev/\(ev=.nilIface\/∃te pe,ev=.iface te pe)
theorem bb7.below{w w':World}{g:Nat}(h:bb7 w g)(hb:Bq w w'):bb7 w' g:=by obtain⟨ev,h1,h2⟩:=h;exact⟨ev,qC hb h1,h2⟩
def D6(w:World):Prop:=V2 w/\bb7 w 3 /\ bb7 w 4
theorem D6.below{w w':World}(h:D6 w)(hb:Bq w w'):D6 w':=⟨h.1.below hb,h.2.1.below hb,h.2.2.below hb⟩
theorem bJ6(n:Int)(w:World)(h0:-9223372036854775808<=n)(h1:n<=9223372036854775807)(hK:V2 w):
 Calls prog 138 #[.int .i64 n] w fun e w'=>e=.returned (.string ⟨(Lib.itoa n).toArray⟩)/\Bq w w':=by refine (Tryz.strconv_Itoa n h0 h1 w hK.2).mono ?_;rintro e w1⟨rfl,q,os,hw1⟩;exact⟨rfl,by rw[hw1];exact ao4 _ _ (qB _)⟩
theorem bs9{w w':World}(h:w'=w\/∃t,w'=Lib.bytesWorld w 5 t):Bq w w':=by
 rcases h with rfl | ⟨t,rfl⟩
 . exact qI _ _
 . exact Lib.bytesWorld_below _ _ _
theorem cm9(s:ByteArray)(n:Int)(w:World)(hs:s.size<=281474976710656)(h:Lib.atoiAll s.data.toList=.ok n):
 Calls prog 303 #[.string s] w fun e w'=>e=.returned (.tuple #[.int .i64 n,.nilIface])/\Bq w w':=by refine (Tryz.strconv_Atoi_ok s (by omega) n h w).mono ?_;rintro e w'⟨rfl,hw⟩;exact⟨rfl,bs9 hw⟩
theorem ce9(s:ByteArray)(w:World)(hs:s.size<=281474976710656)(hE:D6 w)(h:∀n,Lib.atoiAll s.data.toList≠.ok n):
 Calls prog 303 #[.string s] w fun e w'=>∃z t p,e=.returned (.tuple #[.int .i64 z,.iface t p])/\Bq w w':=by
 cases hc:Lib.atoiAll s.data.toList with
 | ok n=>exact absurd hc (h n)
 | «syntax»=>
  obtain⟨ev,h1,h2⟩:=hE.2.1
  refine (Tryz.strconv_Atoi_syntax s hs hc ev w h1 h2).mono ?_
  rintro e w'⟨N,rfl,_,_,hb⟩
  exact⟨_,_,_,rfl,hb⟩
 | range=>
  obtain⟨ev,h1,h2⟩:=hE.2.2
  refine (Tryz.strconv_Atoi_range s hs hc ev w h1 h2).mono ?_
  rintro e w'⟨N,rfl,_,_,hb⟩
  exact⟨_,_,_,rfl,hb⟩
theorem bT9(s:List UInt8)(w:World)(hs:s.length<=1000000)(hE:D6 w):
 Calls prog 253 #[.string ⟨s.toArray⟩] w fun e w'=>e=.returned (.int .i64 (numOf s:Int))/\Bq w w':=by
 have hd:(⟨s.toArray⟩:ByteArray).data.toList=s:=rfl;have hsz:(⟨s.toArray⟩:ByteArray).size=s.length:=by simp[ByteArray.size]
 by_cases hok:∃n,Lib.atoiAll s=.ok n
 .
  obtain⟨n,hn⟩:=hok;have hb:=Lib.atoiAll_bounds hn;have hA:=cm9 ⟨s.toArray⟩ n w (by omega) (by rw[hd];exact hn);have hN:=bY8 hn;have hI:=fun(W:World)(h:V2 W)=>bJ6 n W hb.1 hb.2 h;have HE:=qH hE;by_cases h0:n<0
  . have HN:=qH (show numOf s=0 by rw[hN,qA (by omega)]);clear hN hI hE hd hsz;go_enter Tryz.func253,Tryz.ntmps253;go_wp2_with fail;refine hA.mono ?_;rintro e w1⟨rfl,hb1⟩;have HB:=qH hb1;clear hb1 hA;go_wp2_with fail;go_ret;exact⟨by rw[HN.out];rfl,HB.out⟩
  .
   by_cases h1:4000<n
   . have HN:=qH (show numOf s=0 by rw[hN,qA (by omega)]);clear hN hI hE hd hsz;go_enter Tryz.func253,Tryz.ntmps253;go_wp2_with fail;refine hA.mono ?_;rintro e w1⟨rfl,hb1⟩;have HB:=qH hb1;clear hb1 hA;go_wp2_with fail;go_ret;exact⟨by rw[HN.out];rfl,HB.out⟩
   .
    have hI':∀(W:World),V2 W->Calls prog 138 #[.int .i64 n] W fun e w'=>∃tx:ByteArray,e=.returned (.string tx)/\Hid (Value.string tx=S (Lib.itoa n))/\Bq W w':=by intro W hK;refine (hI W hK).mono ?_;rintro e w'⟨rfl,hb⟩;exact⟨_,rfl,rfl,hb⟩
    obtain⟨sx,hsx⟩:=qE (⟨s.toArray⟩:ByteArray);have HSX:Hid (Value.string sx=S s):=by rw[hsx];exact rfl
    rw[<- hsx]at hA ⊢;have HN:Hid _:=hN;have HI:Hid _:=hI';have HNn:Hid (0<=n/\n<=4000):=⟨by omega,by omega⟩;clear hN hI hI' hE hd hsz hsx;go_enter Tryz.func253,Tryz.ntmps253;go_wp2_with fail;refine hA.mono ?_;rintro e w1⟨rfl,hb1⟩;have HB:=qH hb1;clear hb1 hA;go_wp2_with fail;refine (HI.out w1 (HE.out.below HB.out).1).mono ?_;rintro e w2⟨tx,rfl,htx,hb2⟩;have HB2:=qT HB hb2;clear hb2;by_cases heq:Lib.itoa n=s
    .
     have hbe:(tx.toList==sx.toList)=true:=by rw[aj0 htx.out,aj0 HSX.out,heq];simp
     have HD:=qH (show (numOf s:Int)=n by
      rw[HN.out,qF ⟨HNn.out.1,HNn.out.2,heq⟩]
      have:=HNn.out.1
      omega)
     clear heq;go_wp2_with fail;go_ret;exact⟨by rw[HD.out];rfl,HB2.out⟩
    . have hbe:(tx.toList==sx.toList)=false:=by rw[aj0 htx.out,aj0 HSX.out];simpa using heq
      have HD:=qH (show (numOf s:Int)=0 by
       rw[HN.out,qA (fun h=>heq h.2.2)]
       rfl)
      clear heq;go_wp2_with fail;go_ret;exact⟨by rw[HD.out];rfl,HB2.out⟩
 . have hA:=ce9 ⟨s.toArray⟩ w (by omega) hE (by rw[hd];exact fun n h=>hok ⟨n,h⟩);have HN:Hid (numOf s=0):=bL2 (fun n h=>hok ⟨n,h⟩);clear hok hE hd hsz;go_enter Tryz.func253,Tryz.ntmps253;go_wp2_with fail;refine hA.mono ?_;rintro e w1⟨z,t,p,rfl,hb1⟩;have HB:=qH hb1;clear hb1 hA;go_wp2_with fail;go_ret;exact⟨by rw[HN.out];rfl,HB.out⟩
theorem bt0:Y7 []=0:=rfl
theorem bj1(x:List UInt8)(r:List (List UInt8)):Y7 (x::r)=numOf x:=by unfold Y7;rw[zO,qu,xG]
theorem aR2{w w':World}{a b c:Value}{t:TypeId}(h:Below (w.alloc (.cells #[a,b,c] t)).heap.size (w.alloc (.cells #[a,b,c] t)) w'):w'.cell? ⟨w.heap.size,0,none⟩=some a/\w'.cell? ⟨w.heap.size,1,none⟩=some b/\w'.cell? ⟨w.heap.size,2,none⟩=some c:=by
 refine⟨?_,?_,?_⟩
 all_goals
  rw[h.cell (by simp),qV _ _ _ _ _ _ (qN w _)];rfl
theorem sum_is(v:Value)(ps:List (List (List UInt8)))(w:World)(hp:RList w v S ps)(hn:ps.length<=1000)(hsz:∀p∈ps,∀s∈p,s.length<=1000000)(hE:D6 w):
 Calls prog 197 #[v] w fun e w'=>e=.returned (.int .i64 (sumOf ps:Int))/\Bq w w':=by
 obtain⟨ao,cap,rfl,hc1,hc2⟩:=hp.shape;have HP:=qH hp;obtain⟨N,hN⟩:=qE ps.length;have HN:=qH hN;have hN4:N<=1000:=by omega
 have HE:=qH hE;have HSZ:Hid _:=hsz;rw[<- hN];clear hN hp hn hc1 hc2 hE hsz;go_enter Tryz.func197,Tryz.ntmps197;go_wp2_with fail
 go_loopw [3,8] (fun s i wr=>∃k:Nat,∃m:Nat,k<=N/\m<=4000*k/\i=.int .i64 k/\s=.int .i64 m/\Hid (Bq w wr)/\Hid (m=sumOf (ps.take k)))
  (fun _ i _=>N-(intOf i).toNat)
 case atStart=>exact⟨0,0,qP _,by omega,rfl,rfl,qI _ _,(show _=_ from by simp[sumOf])⟩
 case round=>
  obtain⟨k,m,hk,hm,rfl,rfl,Aa,hmk⟩:=hrel;by_cases hlt:k<N
  .
   obtain⟨p,hpk⟩:∃p,ps[k]? = some p:=⟨_,gEl (by have:=HN.out;omega)⟩;have HPr:Hid (RList wr (.slice ao N cap) S ps):=by rw[HN.out];exact HP.out.below Aa.out
   obtain⟨b,off,au,cu,rfl,Ac,hru⟩:=HPr.out.at hpk;have HS:=qH (show m+Y7 p=sumOf (ps.take (k+1)) from by rw[by3 hpk,<- hmk.out]);have hpm:p∈ps:=mGt hpk
   cases p with
   | nil=>
    simp only[qy]at Ac
    rw[bt0]at HS
    clear hpk hru hmk hpm
    go_wp2_with fail
    go_roundw
    case rel=>exact⟨k+1,m,by omega,by omega,by go_num,rfl,Aa,HS⟩
    case measure=>simp[intOf];omega
   | cons x r=>
    obtain⟨b1,o1,sx,rfl,hc1,hsx,hcu1,Pm⟩:=af1 hru
    obtain rfl:sx=⟨x.toArray⟩:=by unfold S at hsx;injection hsx
    have Gp:=bT9 x wr (HSZ.out _ hpm x (by simp)) (HE.out.below Aa.out)
    have hle:=bk9 x
    rw[bj1]at HS
    have hpl:(x::r).length=r.length+1:=rfl
    rw[hpl]at Ac Pm
    clear hsx hru hpl hpk hmk hpm
    generalize r.length=rl at *
    generalize numOf x=z at *
    go_wp2_with (go_at_call 253;refine Gp.mono ?_;rintro e w1⟨rfl,hb1⟩)
    have HB1:=qT Aa hb1
    clear hb1 Gp
    go_wp2_with fail
    go_roundw
    case rel=>exact⟨k+1,m+z,by omega,by omega,by go_num,by go_num,HB1,HS⟩
    case measure=>simp[intOf];omega
  .
   have hkN:k=N:=by omega
   have HD:=qH (show m=sumOf ps from by
    have h:=hmk.out
    rw[hkN,HN.out,qZ]at h
    exact h)
   clear hmk;go_wp2_with fail;go_ret;refine⟨?_,Aa.out⟩;rw[<- HD.out];rfl
theorem bF1{how:Int}{c:Cmd}(h:how<1\/4<how):jchk how c=4:=by unfold jchk;rw[qF h]
theorem bF2{c:Cmd}:jchk 4 c=chk c:=by unfold jchk;rw[qA (by omega),qF rfl]
theorem bU0{how:Int}{c:Cmd}(h1:1<=how)(h2:how<4)(h:c.kind=0/\c.word=[]/\c.n=0):jchk how c=0:=by unfold jchk;rw[qA (by omega),qA (by omega),qF h]
theorem bU1{how:Int}{c:Cmd}(h1:1<=how)(h2:how<4)(h:¬(c.kind=0/\c.word=[]/\c.n=0)):jchk how c=4:=by unfold jchk;rw[qA (by omega),qA (by omega),qA h]
theorem bb8(how:Int)(c:Cmd)(w:World)(hw:c.word.length<=9223372036854775807):
 Calls prog 195 #[.int .i64 how,c.v] w fun e w'=>e=.returned (.int .i64 (jchk how c))/\Bq w w':=by
 have Ap:=fun W=>ah7 c W hw;have hem:=@empty_of c.word;have hfu:=@full_of c.word;obtain⟨k,word,n⟩:=c;unfold Cmd.v at Ap ⊢;simp only at Ap hem hfu ⊢;by_cases hr:how<1\/4<how
 .
  rw[bF1 hr];clear Ap hem hfu;generalize (⟨word.toArray⟩:ByteArray)=sx at *;rcases hr with hr | hr
  . go_enter Tryz.func195,Tryz.ntmps195;go_wp2_with fail;go_ret;exact⟨rfl,i8⟩
  . have hr':¬how<1:=by omega
    go_enter Tryz.func195,Tryz.ntmps195;go_wp2_with fail;go_ret;exact⟨rfl,i8⟩
 .
  by_cases h4:how=4
  . subst h4;rw[bF2];clear hem hfu;generalize (⟨word.toArray⟩:ByteArray)=sx at *;generalize chk ⟨k,word,n⟩=r at *;go_enter Tryz.func195,Tryz.ntmps195;go_wp2_with fail;refine (Ap _).mono ?_;rintro e w1⟨rfl,hb1⟩;have HB:Hid (Bq w w1):=i8.trans (hb1.mono (by simp));clear hb1 Ap;go_wp2_with fail;go_ret;exact⟨rfl,HB.out⟩
  .
   have h1:¬how<1:=by omega
   have h2:¬4<how:=by omega
   clear Ap hr;by_cases hz:k=0/\word=[]/\n=0
   . obtain⟨rfl,rfl,rfl⟩:=hz;rw[bU0 (by omega) (by omega) ⟨rfl,rfl,rfl⟩];clear hem hfu;go_enter Tryz.func195,Tryz.ntmps195;go_wp2_with fail;go_ret;exact⟨rfl,i8⟩
   .
    rw[bU1 (by omega) (by omega) hz];obtain⟨d,hd⟩:∃d,(⟨word.toArray⟩:ByteArray).toList.isEmpty=d:=⟨_,rfl⟩;have Eu:¬(k=0/\d=true/\n=0):=by
     rintro⟨h1,h2,h3⟩;apply hz;refine⟨h1,?_,h3⟩
     cases word with
     | nil=>rfl
     | cons x r=>rw[hfu (by simp)]at hd;rw[<- hd]at h2;cases h2
    clear hz hem hfu;generalize (⟨word.toArray⟩:ByteArray)=sx at *;go_enter Tryz.func195,Tryz.ntmps195;go_wp2_with fail;all_goals first|(go_ret;exact⟨rfl,i8⟩)|(exfalso;apply Eu;simp_all)
theorem cn0{w:World}{b off:Nat}{ls:List (List UInt8)}(hc:∀j u,(ls.map S)[j]? = some u->w.cell? ⟨b,off+j,none⟩=some u):∀j,j<(ls.map fun l=>(⟨l.toArray⟩:ByteArray)).length->w.cell? ⟨b,off+j,none⟩=some (.string ((ls.map fun l=>(⟨l.toArray⟩:ByteArray)).getD j ByteArray.empty)):=by
 intro j hj;have hj':j<ls.length:=by simpa using hj
 have:=hc j (S ls[j]) (by simp[hj']);rw[this];simp[S,List.getD_eq_getElem?_getD,hj']
theorem cf0(v:Value)(ls:List (List UInt8))(w:World)(hr:Reads w v ls.length (ls.map S))(hl:ls.length<=1000000):
 Calls prog 194 #[v] w fun e w'=>∃r,e=.returned r/\w'.ownsRow w.heap.size 9 1 r ls.length (ls.map S)/\Bq w w':=by
 obtain⟨_,ao,cap,rfl,h2,h3,h4⟩:=hr
 cases ao with
 | none=>
  have h0:ls.length=0:=by
   rcases za ls.length with h | h
   . exact h
   . obtain⟨b,off,e,_⟩:=h4 (by omega);cases e
  have hn:ls=[]:=qi h0
  subst hn
  refine (Any.slices_Clone_string_nil Tryz.laysClone _ cap w).mono ?_
  rintro e w'⟨rfl,rfl⟩
  exact⟨_,rfl,World.ownsRow_nil _ _ _ _,qI _ _⟩
 | some a=>
  by_cases h0:ls.length=0
  . have hn:ls=[]:=qi h0
    subst hn
    refine (Any.slices_Clone_string_zero Tryz.laysClone a cap w).mono ?_
    rintro e w'⟨r,rfl,h5,_,h6⟩
    exact⟨_,rfl,h5,h6⟩
  .
   obtain⟨b,off,e,hc⟩:=h4 h0
   injection e with e
   subst e
   refine (Any.slices_Clone_string Tryz.laysClone b off ls.length cap (ls.map fun l=>⟨l.toArray⟩) w (by simp) (by omega) (cn0 hc)).mono ?_
   rintro e w'⟨r,rfl,h5,_,h6⟩
   refine⟨_,rfl,?_,h6⟩
   have he:((ls.map fun l=>(⟨l.toArray⟩:ByteArray)).take ls.length).map Value.string=ls.map S:=by
    rw[qO (by simp),xh]
    rfl
   rw[he]at h5
   exact h5
theorem cf1{w W:World}{bx:Nat}{a b c:Value}(v:Value)(ls:List (List UInt8))(hr:Reads W v ls.length (ls.map S))(hl:ls.length<=1000000)(hB:Bq w W)(h0:W.cell? ⟨bx,0,none⟩=some a)(h1:W.cell? ⟨bx,1,none⟩=some b)(h2:W.cell? ⟨bx,2,none⟩=some c):
 Calls prog 194 #[v] W fun e w'=>∃r,e=.returned r/\Hid (w'.ownsRow W.heap.size 9 1 r ls.length (ls.map S))/\Hid (Bq W w')/\w'.cell? ⟨bx,0,none⟩=some a/\w'.cell? ⟨bx,1,none⟩=some b/\w'.cell? ⟨bx,2,none⟩=some c:=by refine (cf0 v ls W hr hl).mono ?_;rintro e w'⟨r,rfl,h3,h4⟩;have hlt:bx<W.heap.size:=bLt W _ h0;exact⟨r,rfl,h3,h4,(h4.cell (p:=⟨bx,0,none⟩) hlt).trans h0,(h4.cell (p:=⟨bx,1,none⟩) hlt).trans h1,(h4.cell (p:=⟨bx,2,none⟩) hlt).trans h2⟩
theorem bt1(c:Cmd)(hc:chk c=0)(v:Value)(ls:List (List UInt8))(w:World)(hw:c.word.length<=9223372036854775807)(hr:Reads w v ls.length (ls.map S))(hl:ls.length<=300000)(hsz:∀s∈ls,s.length<=300000)(hK:V2 w):
 Calls prog 149 #[c.v,v] w fun e w'=>∃r,e=.returned (.tuple #[r,.int .i64 0])/\Reads w' r (made c ls).length ((made c ls).map S)/\Bq w w':=by
 have Ap:=fun W=>ah7 c W hw;rw[hc]at Ap;have Du:=fun(v:Value)(W:World)(B:Nat) hB0 hB ho hK=>bI9 c hc v ls W B hB0 hB ho hl hsz hK;have hml:0 < w.heap.size:=by obtain⟨⟨m,hm⟩,_⟩:=hK;exact bLt w _ hm
 obtain⟨k,word,n⟩:=c;unfold Cmd.v at Ap Du ⊢;simp only at Ap Du ⊢;have HR:=qH hr;have HO:Hid _:=Du;have HK:=qH hK;have HM:Hid _:=hml;clear hr Du hK hml;generalize made ⟨k,word,n⟩ ls=M at *;generalize (⟨word.toArray⟩:ByteArray)=sx at *;go_enter Tryz.func149,Tryz.ntmps149;go_wp2_with fail;refine (Ap _).mono ?_;rintro e w1⟨rfl,hb1⟩;obtain⟨x0,x1,x2⟩:=aR2 hb1;have HB:Hid (Bq w w1):=i8.trans (hb1.mono (by simp));clear hb1 Ap;go_upto_region 4 with fail;have HBd:Hid (Bq w w1.drew):=HB.out.drew;have HRd:Hid (Reads w1.drew v ls.length (ls.map S)):=HR.out.below HBd.out
 go_region_with (first
  | (go_at_call 194;refine (cf1 v ls HRd.out (by omega) HBd.out x0 x1 x2).mono ?_;rintro e w2⟨r2,rfl,O2,B2,y0,y1,y2⟩)
  | (go_at_call 157;refine (HO.out r2 w2 w1.heap.size (xT HM.out HB.out.size) B2.out.size O2.out ((HK.out.below HBd.out).below B2.out)).mono ?_;rintro e w3⟨r3,rfl,R3,B3⟩))
 all_goals
  have HR3:Hid _:=R3;have HB3:Hid (Bq w w3):=HBd.out.trans ((B2.out.mono HBd.out.size).trans (B3.mono HB.out.size));clear R3 B3;go_wp2_with fail;go_ret2;exact⟨r3,rfl,HR3.out,HB3.out⟩
def LRow(w wr:World)(G:Nat)(cur:List (List (List UInt8))):Prop:=
 ∃vs:List Value,wr.heap[G]? = some (.cells vs.toArray 53 (0,0))/\vs.length=cur.length/\∀(j:Nat)(p:List (List UInt8)),cur[j]? = some p->∃u,vs[j]? = some u/\Reads w u p.length (p.map S)
theorem LRow.rlist{w wr:World}{G:Nat}{cur:List (List (List UInt8))}(h:LRow w wr G cur)(hb:Bq w wr)(hn:cur.length<=1000):RList wr (.slice (some ⟨G,0,none⟩) cur.length cur.length) S cur:=by
 obtain⟨vs,h1,h2,h3⟩:=h;refine⟨vs,⟨h2,_,_,rfl,qB _,by unfold maxLen;omega,fun _=>⟨G,0,rfl,fun j u hu=>?_⟩⟩,fun j p hj=>?_⟩
 . rw[qa,qV _ _ _ _ _ _ h1];simpa using hu
 . obtain⟨u,h4,h5⟩:=h3 j p hj;exact⟨u,h4,h5.below hb⟩
theorem LRow.keep{w wr wr':World}{G:Nat}{cur:List (List (List UInt8))}(h:LRow w wr G cur)(hk:wr'.heap[G]? = wr.heap[G]?):LRow w wr' G cur:=by obtain⟨vs,h1,h2,h3⟩:=h;exact⟨vs,by rw[hk];exact h1,h2,h3⟩
theorem bU2{w:World}{b off n cu:Nat}{x:List UInt8}{r:List (List UInt8)}(h:Reads w (.slice (some ⟨b,off,none⟩) n cu) (x::r).length ((x::r).map S))(a':Option Addr)(ha:cu≠1->a'=some ⟨b,off+1,none⟩):Reads w (.slice a' r.length (cu-1)) r.length (r.map S):=by obtain⟨h1,ao,cap,e,h2,h3,h4⟩:=h;injection e with e1 e2 e3;subst e1 e3;simp only[qY]at h2;refine⟨by simp,a',cu-1,rfl,by omega,qw (Nat.sub_le _ _) h3,fun hr=>?_⟩;obtain⟨b',off',e,hc⟩:=h4 (by simp);injection e with e;injection e with e1 e2;subst e1 e2;refine⟨b,off+1,ha (by omega),fun j u hu=>?_⟩;rw[Nat.add_assoc,Nat.add_comm 1 j];exact hc (j+1) u (by simpa using hu)
theorem LRow.step{w wr:World}{G k:Nat}{cur:List (List (List UInt8))}{x:List UInt8}{r:List (List UInt8)}{b off n cu:Nat}(h:LRow w wr G cur)(hk:cur[k]? = some (x::r))(hr:Reads w (.slice (some ⟨b,off,none⟩) n cu) (x::r).length ((x::r).map S))(a':Option Addr)(ha:cu≠1->a'=some ⟨b,off+1,none⟩):LRow w (wr.setCell ⟨G,k,none⟩ (.slice a' r.length (cu-1))) G (cur.modify k (List.drop 1)):=by
 obtain⟨vs,h1,h2,h3⟩:=h;obtain⟨hkl,_⟩:=gSm hk;refine⟨vs.set k (.slice a' r.length (cu-1)),?_,by simp[h2],fun j p hj=>?_⟩
 . rw[xp _ _ _ _ _ _ h1];simp
 .
  rw[List.getElem?_modify]at hj;by_cases hjk:k=j
  . subst hjk;rw[hk]at hj;simp at hj;subst hj;exact⟨_,xy (by omega),bU2 hr a' ha⟩
  . simp[hjk]at hj;obtain⟨u,h4,h5⟩:=h3 j p hj;exact⟨u,by rw[xU hjk];exact h4,h5⟩
theorem LRow.at{w wr:World}{G k:Nat}{cur:List (List (List UInt8))}{x:List UInt8}{r:List (List UInt8)}(h:LRow w wr G cur)(hk:cur[k]? = some (x::r)):∃b off cu sx,wr.cell? ⟨G,k,none⟩=some (.slice (some ⟨b,off,none⟩) (r.length+1) cu)/\Reads w (.slice (some ⟨b,off,none⟩) (r.length+1) cu) (x::r).length ((x::r).map S)/\w.cell? ⟨b,off,none⟩=some (.string sx)/\Value.string sx=S x/\r.length+1<=cu/\cu<=9223372036854775807:=by obtain⟨vs,h1,h2,h3⟩:=h;obtain⟨u,h4,h5⟩:=h3 k _ hk;obtain⟨_,ao,cap,rfl,_⟩:=id h5;obtain⟨b,off,sx,rfl,hc,hs,h6,h7⟩:=af1 h5;refine⟨b,off,cap,sx,?_,h5,hc,hs,h7,h6⟩;rw[qV _ _ _ _ _ _ h1];simpa using h4
theorem bF3{cur:List (List (List UInt8))}{m k:Nat}{x:List UInt8}(h:least cur=some (k,x)):X7 (m+1) cur=x::X7 m (cur.modify k (List.drop 1)):=by
 conv=>lhs;unfold X7
 rw[h]
theorem cf2:(prog.info? 53).map (fun i=>(i.zero,i.size,i.bytes))=some (some (.slice none 0 0),1,24):=by kernel_rfl
theorem bU3:(prog.info? 53).map (·.size)=some 1:=by kernel_rfl
theorem cn2{D:List (List UInt8)}{x:List UInt8}{m i:Nat}(hi:D.length=i):((D.map S++List.replicate (m+1) (S [])).toArray).setIfInBounds i (S x)=((D++[x]).map S++List.replicate m (S [])).toArray:=by rw[List.setIfInBounds_toArray,zC _ _ (by simp;omega)];simp[hi,List.replicate_succ]
def MRel(w wr:World)(ps:List (List (List UInt8)))(T GL GO:Nat)(i:Nat):Prop:=
 ∃(D:List (List UInt8))(cur:List (List (List UInt8))),D.length=i/\cur.length=ps.length/\cur.flatten.length=T-i/\D++X7 (T-i) cur=X7 T ps/\LRow w wr GL cur/\wr.heap[GO]? = some (.cells (D.map S++List.replicate (T-i) (S [])).toArray 9 (0,0))/\Bq w wr
theorem cf4(v:Value)(ps:List (List (List UInt8)))(w:World)(hp:RList w v S ps)(hn:ps.length<=1000)(hb:ps.flatten.length<=1000000):
 Calls prog 196 #[v] w fun e w'=>∃r,e=.returned r/\Reads w' r (T9 ps).length ((T9 ps).map S)/\Bq w w':=by
 obtain⟨i0,hi,hz0,hz1,hz2⟩:=info_parts N6;obtain⟨i1,hi',hy0,hy1,hy2⟩:=info_parts cf2;have Aw:=fun(W:World)(h:Bq w W)=>bm9 v ps W (hp.below h) hn (by omega);obtain⟨ao,cap,rfl,hc1,hc2⟩:=hp.shape;have HP:=qH hp;obtain⟨N,hN⟩:=qE ps.length;have HN:=qH hN;have hN4:N<=1000:=by omega
 obtain⟨T,hT⟩:=qE ps.flatten.length;have HT:=qH hT;have hTb:T<=1000000:=by omega
 have hb2:i0.bytes*T<=281474976710656:=by rw[hz2];omega
 have hb3:T<=maxLen:=by unfold maxLen;omega
 have hb4:i1.bytes*N<=281474976710656:=by rw[hy2];omega
 have hb5:N<=maxLen:=by unfold maxLen;omega
 rw[<- hT,<- hN]at Aw;rw[<- hN];have HCt:Hid _:=Aw;clear hN hp hn hc1 hc2 hT hb Aw;go_enter Tryz.func196,Tryz.ntmps196;go_wp2_with (at_make;refine wpList_make_full _ rfl (.tmp 8) (.tmp 8) 190 rfl w.heap.size 53 i1 (.slice none 0 0) 1 underlying190 hi' hy0 hy1 .i64 .i64 _ _ N rfl rfl rfl rfl hb4 hb5 (qB _) ?_)
 intro w1 Nj Dj;have HB1:Hid (Bq w w1):=below_grown Dj (qB _);have Ox:w.heap.size<w1.heap.size:=by
  have:=(aa5 Nj).1;rcases zD w.heap.size w1.heap.size with h | h
  . exact h
  . rw[xE h]at this;cases this
 obtain⟨L0,hL0⟩:=qE (List.replicate N (.slice none 0 0:Value));have hL0l:L0.length=N:=by rw[hL0];simp
 have HR1:Hid (w1.heap[w.heap.size]? = some (.cells L0.toArray 53 (0,0))):=by have:=(aa5 Nj).1;rw[zF,<- hL0]at this;exact this
 clear Nj Dj hL0;obtain⟨us,Uz,hus2⟩:=id HP.out;have Va:us.length=N:=by rw[HN.out];exact Uz.1
 have HU2:Hid _:=hus2;have HU1:Hid _:=Uz;clear Uz hus2;go_wp2_with (refine wpList_copy_splice rfl (.tmp 10) (.tmp 11) 190 190 rfl 53 underlying190 bU3 (some ⟨w.heap.size,0,none⟩) ao N N N cap rfl rfl w.heap.size 0 L0 53 HR1.out us ?c1 ?c2 ?c3 ?c4 w.heap.size w HB1.out (qB _) ?_)
 case c1=>rw[Va];exact (Nat.min_self N).symm
 case c2=>
  intro h0;obtain⟨_,ao',cap',e,_,_,h5⟩:=HU1.out;injection e with e1 e2 e3;obtain⟨b',off',e4,hc⟩:=h5 (by rw[<- HN.out];omega);refine⟨⟨b',off',none⟩,e1.trans e4,fun j u hu=>?_⟩;have Dp:(⟨b',off',none⟩:Addr).add j=⟨b',off'+j,none⟩:=by unfold Addr.add;split <;> simp_all
  rw[Dp];have hcj:=hc j u hu;exact qC HB1.out hcj
 case c3=>omega
 case c4=>intro u hu;obtain⟨j,hj,rfl⟩:=zh.1 hu;obtain⟨u',h1,h2⟩:=HU2.out j (ps[j]'(by have:=HN.out;omega)) (gEl _);rw[gEl hj]at h1;injection h1 with h1;obtain⟨_,ao',cap',e,_⟩:=h2;rw[h1,e];rfl
 intro w2 hr2 hb2';have HB2:=qH hb2';have hsz2:w.heap.size<w2.heap.size:=by
  have:=hr2.out;rcases zD w.heap.size w2.heap.size with h | h
  . exact h
  . rw[xE h]at this;cases this
 have HL2:Hid (LRow w w2 w.heap.size ps):=⟨us,by
  have:=hr2.out
  rw[this]
  congr 3
  unfold splice
  rw[List.take_zero,xn,qa,qt (by omega),xH],by rw[Va];exact HN.out,HU2.out⟩
 clear hr2 hb2' HU1 HU2 Va HR1;go_wp2_with (first|(go_at_call 251;refine (HCt.out w2 HB2.out).mono ?_;rintro e w9⟨rfl,hw9⟩;obtain rfl:w2=w9:=hw9.symm)|(at_make;refine wpList_make_full _ rfl (.tmp 14) (.tmp 14) 53 rfl w2.heap.size 9 i0 (.string ⟨#[]⟩) 1 underlying53 hi hz0 hz1 .i64 .i64 _ _ T rfl rfl rfl rfl hb2 hb3 (qB _) ?_))
 intro w3 Eh Cm;have HB3:Hid (Bq w w3):=HB2.out.trans (below_grown Cm (Nat.le_of_lt hsz2));have HM3:Hid (MRel w w3 ps T w.heap.size w2.heap.size 0):=by refine⟨[],ps,rfl,rfl,by rw[<- HT.out];rfl,rfl,HL2.out.keep ((below_grown Cm (qB _)).block _ hsz2),?_,HB3.out⟩;have:=(aa5 Eh).1;rw[zF]at this;exact this
 clear Eh Cm HL2 HB3 HB2 HB1 hw9 HCt;generalize hGO:w2.heap.size=GO at *;clear hGO;go_wp2_with fail;go_loopw [18] (fun i wr=>∃k:Nat,k<=T/\i=.int .i64 k/\Hid (MRel w wr ps T w.heap.size GO k)) (fun i _=>T-(intOf i).toNat)
 case atStart=>exact⟨0,qP _,rfl,HM3.out⟩
 case round=>
  obtain⟨i,hiT,rfl,hrel⟩:=hrel;obtain⟨D,cur,hD,hcl,hfl,hmg,hlr,hor,Aa⟩:=hrel.out;clear hrel;by_cases hlt:i<T
  .
   obtain⟨k,x,hlx⟩:∃k x,least cur=some (k,x):=by
    cases h:least cur with
    | none=>rw[aK9 h]at hfl;simp at hfl;omega
    | some q=>exact⟨q.1,q.2,rfl⟩
   obtain⟨r,hck,_⟩:=least_some hlx;have hkl:k<cur.length:=(gSm hck).1;obtain⟨b,off,cu,sx,hcG,hru,hcx,hsx,hcu1,Pm⟩:=hlr.at hck;have hle:=ce4 _ cur wr (hlr.rlist Aa (by have:=HN.out;omega)) (by have:=HN.out;omega);rw[hcl,<- HN.out,hlx]at hle;have hcxr:wr.cell? ⟨b,off,none⟩=some (.string sx):=qC Aa hcx;have hne:GO≠w.heap.size:=by omega
   obtain⟨m,hm⟩:∃m,T-i=m+1:=⟨T-i-1,by omega⟩;have hTi:T-(i+1)=m:=by omega
   rw[hm]at hfl hmg hor;have HREL:Hid (∀(w4:World),w4.heap=wr.heap->Bq w w4->∀a',(cu≠1->a'=some ⟨b,off+1,none⟩)->MRel w ((w4.setCell ⟨GO,i,none⟩ (.string sx)).setCell ⟨w.heap.size,k,none⟩ (.slice a' r.length (cu-1))) ps T w.heap.size GO (i+1)):=by
    intro w4 h4 hb4 a' ha;refine⟨D++[x],cur.modify k (List.drop 1),by simp[hD],by simp[hcl],?_,?_,?_,?_,?_⟩
    . have:=af7 hck;rw[hTi];omega
    . rw[hTi,<- hmg,bF3 hlx];simp
    . refine LRow.step ?_ hck hru a' ha;exact hlr.keep (by rw[heap_setCell_other _ _ _ _ (Ne.symm hne),h4])
    . rw[heap_setCell_other _ _ _ _ hne,xp _ _ _ _ _ _ (by rw[h4];exact hor),hTi,hsx,cn2 hD]
    . exact (hb4.setCell (by simp;omega) _).setCell (by simp) _
   have hcO:wr.cell? ⟨GO,i,none⟩=some (S []):=by rw[qV _ _ _ _ _ _ hor];simp[hD]
   have hfO:wr.frozen? ⟨GO,i,none⟩=false:=xK _ _ _ _ _ hor;have hfG:wr.frozen? ⟨w.heap.size,k,none⟩=false:=by obtain⟨vs,h1,_⟩:=hlr;exact xK _ _ _ _ _ h1
   have Hsx:Hid _:=hsx;have HB:=qH Aa;have hkN:k<N:=by have:=HN.out;omega
   simp only[lix]at hle;clear hsx Aa hlr hor hmg hru hcx hfl hcl hD hck hlx hkl;generalize r.length=rl at *;go_wp2_with (go_at_call 252;refine hle.mono ?_;rintro e w4⟨rfl,q,rfl⟩)
   have g1:(wr.drewN q).cell? ⟨w.heap.size,k,none⟩=some (.slice (some ⟨b,off,none⟩) (rl+1) cu):=hcG;have g2:(wr.drewN q).cell? ⟨b,off,none⟩=some (.string sx):=hcxr;have g3:(wr.drewN q).cell? ⟨GO,i,none⟩=some (S []):=hcO;have g4:(wr.drewN q).frozen? ⟨GO,i,none⟩=false:=hfO;have g5:(wr.drewN q).frozen? ⟨w.heap.size,k,none⟩=false:=hfG;have g6:((wr.drewN q).setCell ⟨GO,i,none⟩ (.string sx)).cell? ⟨w.heap.size,k,none⟩=some (.slice (some ⟨b,off,none⟩) (rl+1) cu):=by rw[zI _ _ _ _ (by intro e;injection e with e;exact hne e)];exact g1
   have g7:((wr.drewN q).setCell ⟨GO,i,none⟩ (.string sx)).frozen? ⟨w.heap.size,k,none⟩=false:=by rw[World.frozen?_setCell];exact g5
   have HR4:Hid _:=HREL.out (wr.drewN q) rfl (bs7 HB.out _);clear hcG hcxr hcO hfO hfG hle HREL;go_wp2_with fail;go_roundw
   case rel=>exact⟨i+1,by omega,by go_num,HR4.out _ (fun h=>by rw[qA h])⟩
   case measure=>simp[intOf];omega
  .
   have hiT2:i=T:=by omega
   have HO:Hid (Reads wr (.slice (some ⟨GO,0,none⟩) T T) (T9 ps).length ((T9 ps).map S)):=by
    rw[hiT2,zE]at hmg hor;have e:D=T9 ps:=by
     have:D++X7 0 cur=D:=by simp[X7]
     rw[this]at hmg;rw[hmg];unfold T9;rw[HT.out]
    simp only[List.replicate_zero,xH]at hor;have h1:=ap7 (B:=0) (n:=T) hor (by simp[hD,hiT2]) (qP _) (by omega);have h2:=Reads.of_owns h1;have h3:(T9 ps).length=T:=by rw[<- e];omega
    rw[h3,<- e];exact h2
   have HB:=qH Aa;clear hmg hor hlr hfl Aa hD hcl;go_wp2_with fail;go_ret;exact⟨_,rfl,HO.out,HB.out⟩
end Go.Proofs.YtllgglolcgdehaaGreatDoor
