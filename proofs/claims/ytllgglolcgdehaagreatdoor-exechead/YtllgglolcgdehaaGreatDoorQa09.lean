/- What the developers' join's number and sum do, and more. -/
import Derived.Test.YtllgglolcgdehaaGreatDoorQAb
import Derived.Lib.IfaceNeq
import Derived.Test.YtllgglolcgdehaaGreatDoorQSh5
import Derived.Laws.StructEq
import Derived.Test.YtllgglolcgdehaaGreatDoorQa05
import Derived.Test.YtllgglolcgdehaaGreatDoorQa08
set_option maxRecDepth 100000
set_option maxHeartbeats 16000000
namespace Go.Proofs.YtllgglolcgdehaaGreatDoor
open Go.RowKit Go.Gs
set_option linter.unusedVariables false
def aE3 (w:World) (g:Nat):Prop:=∃ev,w.cell? ⟨g,0,none⟩=some ev/\(ev=.nilIface \/ ∃te pe,ev=.iface te pe)
theorem aE3.below {w w':World} {g:Nat} (h:aE3 w g) (hb:Bq w w'):aE3 w' g:=by obtain⟨ev,h1,h2⟩:=h;exact⟨ev,(hb.cell (bLt w _ h1)).trans h1,h2⟩
def t8 (w:World):Prop:=aa6 w/\aE3 w 3 /\ aE3 w 4
theorem t8.below {w w':World} (h:t8 w) (hb:Bq w w'):t8 w':=⟨h.1.below hb,h.2.1.below hb,h.2.2.below hb⟩
theorem bL8 (n:Int) (w:World) (h0:-9223372036854775808<=n) (h1:n<=9223372036854775807) (hK:aa6 w) :
 Calls Tryz.prog 138 #[.int .i64 n] w fun e w'=>e=.returned (.string ⟨(Lib.itoa n).toArray⟩)/\Bq w w':=by refine (Tryz.strconv_Itoa n h0 h1 w hK.2).mono ?_;rintro e w1 ⟨rfl,q,os,hw1⟩;exact⟨rfl,by rw[hw1];exact aL7 _ _ (Nat.le_refl _)⟩
theorem bt3 {w w':World} (h:w'=w \/ ∃t,w'=Lib.bytesWorld w 5 t):Bq w w':=by
 rcases h with rfl | ⟨t,rfl⟩
 . exact Below.refl _ _
 . exact Lib.bytesWorld_below _ _ _
theorem cq1 (s:ByteArray) (n:Int) (w:World) (hs:s.size<=281474976710656) (h:Lib.atoiAll s.data.toList=.ok n) :
 Calls Tryz.prog 303 #[.string s] w fun e w'=>e=.returned (.tuple #[.int .i64 n,.nilIface])/\Bq w w':=by refine (Tryz.strconv_Atoi_ok s (by omega) n h w).mono ?_;rintro e w' ⟨rfl,hw⟩;exact⟨rfl,bt3 hw⟩
theorem cg4 (s:ByteArray) (w:World) (hs:s.size<=281474976710656) (hE:t8 w) (h:∀n,Lib.atoiAll s.data.toList≠.ok n) :
 Calls Tryz.prog 303 #[.string s] w fun e w'=>∃z t p,e=.returned (.tuple #[.int .i64 z,.iface t p])/\Bq w w':=by
 cases hc:Lib.atoiAll s.data.toList with
 | ok n=>exact absurd hc (h n)
 | «syntax»=>
  obtain⟨ev,h1,h2⟩:=hE.2.1
  refine (Tryz.strconv_Atoi_syntax s hs hc ev w h1 h2).mono ?_
  rintro e w' ⟨N,rfl,_,_,hb⟩
  exact⟨_,_,_,rfl,hb⟩
 | range=>
  obtain⟨ev,h1,h2⟩:=hE.2.2
  refine (Tryz.strconv_Atoi_range s hs hc ev w h1 h2).mono ?_
  rintro e w' ⟨N,rfl,_,_,hb⟩
  exact⟨_,_,_,rfl,hb⟩
theorem bS9 (s:List UInt8) (w:World) (hs:s.length<=1000000) (hE:t8 w) :
 Calls Tryz.prog 253 #[.string ⟨s.toArray⟩] w fun e w'=>e=.returned (.int .i64 (numOf s:Int))/\Bq w w':=by
 have hd:(⟨s.toArray⟩:ByteArray).data.toList=s:=rfl;have hsz:(⟨s.toArray⟩:ByteArray).size=s.length:=by simp[ByteArray.size]
 by_cases hok:∃n,Lib.atoiAll s=.ok n
 .
  obtain⟨n,hn⟩:=hok;have hb:=Lib.atoiAll_bounds hn;have hA:=cq1 ⟨s.toArray⟩ n w (by omega) (by rw[hd];exact hn);have hN:=ce6 hn;have hI:=fun (W:World) (h:aa6 W)=>bL8 n W hb.1 hb.2 h;have HE:=qH hE;by_cases h0:n<0
  . have HN:Hid (numOf s=0):=(show _=_ by rw[hN,if_neg (by omega)]);clear hN hI hE hd hsz;go_enter Tryz.func253,Tryz.ntmps253;go_wp2_with fail;refine hA.mono ?_;rintro e w1 ⟨rfl,hb1⟩;have HB:=qH hb1;clear hb1 hA;go_wp2_with fail;go_ret;exact⟨by rw[HN.out];rfl,HB.out⟩
  .
   by_cases h1:4000<n
   . have HN:Hid (numOf s=0):=(show _=_ by rw[hN,if_neg (by omega)]);clear hN hI hE hd hsz;go_enter Tryz.func253,Tryz.ntmps253;go_wp2_with fail;refine hA.mono ?_;rintro e w1 ⟨rfl,hb1⟩;have HB:=qH hb1;clear hb1 hA;go_wp2_with fail;go_ret;exact⟨by rw[HN.out];rfl,HB.out⟩
   .
    have hI':∀(W:World),aa6 W->Calls Tryz.prog 138 #[.int .i64 n] W fun e w'=>∃tx:ByteArray,e=.returned (.string tx)/\Hid (Value.string tx=S (Lib.itoa n))/\Bq W w':=by intro W hK;refine (hI W hK).mono ?_;rintro e w' ⟨rfl,hb⟩;exact⟨_,rfl,rfl,hb⟩
    obtain⟨sx,hsx⟩:=qE (⟨s.toArray⟩:ByteArray);have HSX:Hid (Value.string sx=S s):=by rw[hsx];exact rfl
    rw[<- hsx] at hA ⊢;have HN:Hid _:=hN;have HI:Hid _:=hI';have HNn:Hid (0<=n/\n<=4000):=⟨by omega,by omega⟩;clear hN hI hI' hE hd hsz hsx;go_enter Tryz.func253,Tryz.ntmps253;go_wp2_with fail;refine hA.mono ?_;rintro e w1 ⟨rfl,hb1⟩;have HB:=qH hb1;clear hb1 hA;go_wp2_with fail;refine (HI.out w1 (HE.out.below HB.out).1).mono ?_;rintro e w2 ⟨tx,rfl,htx,hb2⟩;have HB2:Hid (Bq w w2):=HB.out.trans (hb2.mono HB.out.size);clear hb2;by_cases heq:Lib.itoa n=s
    .
     have hbe:(tx.toList == sx.toList)=true:=by rw[am7 htx.out,am7 HSX.out,heq];simp
     have HD:Hid ((numOf s:Int)=n):=(show _=_ by
      rw[HN.out,if_pos ⟨HNn.out.1,HNn.out.2,heq⟩]
      have:=HNn.out.1
      omega)
     clear heq;go_wp2_with fail;go_ret;exact⟨by rw[HD.out];rfl,HB2.out⟩
    . have hbe:(tx.toList == sx.toList)=false:=by rw[am7 htx.out,am7 HSX.out];simpa using heq
      have HD:Hid ((numOf s:Int)=0):=(show _=_ by
       rw[HN.out,if_neg (fun h=>heq h.2.2)]
       rfl)
      clear heq;go_wp2_with fail;go_ret;exact⟨by rw[HD.out];rfl,HB2.out⟩
 . have hA:=cg4 ⟨s.toArray⟩ w (by omega) hE (by rw[hd];exact fun n h=>hok ⟨n,h⟩);have HN:Hid (numOf s=0):=bQ2 (fun n h=>hok ⟨n,h⟩);clear hok hE hd hsz;go_enter Tryz.func253,Tryz.ntmps253;go_wp2_with fail;refine hA.mono ?_;rintro e w1 ⟨z,t,p,rfl,hb1⟩;have HB:=qH hb1;clear hb1 hA;go_wp2_with fail;go_ret;exact⟨by rw[HN.out];rfl,HB.out⟩
theorem bt4:ad0 []=0:=rfl
theorem bj3 (x:List UInt8) (r:List (List UInt8)):ad0 (x::r)=numOf x:=by unfold ad0;rw[List.head?_cons,Option.map_some,Option.getD_some]
theorem aT5 {w w':World} {a b c:Value} {t:TypeId} (h:Below (w.alloc (.cells #[a,b,c] t)).heap.size (w.alloc (.cells #[a,b,c] t)) w'):w'.cell? ⟨w.heap.size,0,none⟩=some a/\w'.cell? ⟨w.heap.size,1,none⟩=some b/\w'.cell? ⟨w.heap.size,2,none⟩=some c:=by
 refine⟨?_,?_,?_⟩
 all_goals
  rw[h.cell (by simp),cell_of_row _ _ _ _ _ _ (heap_alloc_new w _)]
  rfl
theorem sum_is (v:Value) (ps:List (List (List UInt8))) (w:World) (hp:RList w v S ps) (hn:ps.length<=1000) (hsz:∀p∈ps,∀s∈p,s.length<=1000000) (hE:t8 w) :
 Calls Tryz.prog 197 #[v] w fun e w'=>e=.returned (.int .i64 (sumOf ps:Int))/\Bq w w':=by
 obtain⟨ao,cap,rfl,hc1,hc2⟩:=hp.shape;have HP:=qH hp;obtain⟨N,hN⟩:=qE ps.length;have HN:=qH hN;have hN4:N<=1000:=by omega
 have HE:=qH hE;have HSZ:Hid _:=hsz;rw[<- hN];clear hN hp hn hc1 hc2 hE hsz;go_enter Tryz.func197,Tryz.ntmps197;go_wp2_with fail
 go_loopw [3,8] (fun s i wr=>∃k:Nat,∃m:Nat,k<=N/\m<=4000*k/\i=.int .i64 k/\s=.int .i64 m/\Hid (Bq w wr)/\Hid (m=sumOf (ps.take k)))
  (fun _ i _=>N-(intOf i).toNat)
 case atStart=>exact⟨0,0,Nat.zero_le _,by omega,rfl,rfl,Below.refl _ _,(show _=_ from by simp[sumOf])⟩
 case round=>
  obtain⟨k,m,hk,hm,rfl,rfl,Aa,hmk⟩:=hrel;by_cases hlt:k<N
  .
   obtain⟨p,hpk⟩:∃p,ps[k]? = some p:=⟨_,gEl (by have:=HN.out;omega)⟩;have HPr:Hid (RList wr (.slice ao N cap) S ps):=by rw[HN.out];exact HP.out.below Aa.out
   obtain⟨b,off,au,cu,rfl,Ac,hru⟩:=HPr.out.at hpk;have HS:Hid (m+ad0 p=sumOf (ps.take (k+1))):=(show _=_ from by rw[bB3 hpk,<- hmk.out]);have hpm:p∈ps:=mGt hpk
   cases p with
   | nil=>
    simp only[List.length_nil] at Ac
    rw[bt4] at HS
    clear hpk hru hmk hpm
    go_wp2_with fail
    go_roundw
    case rel=>exact⟨k+1,m,by omega,by omega,by go_num,rfl,Aa,HS⟩
    case measure=>simp[intOf];omega
   | cons x r=>
    obtain⟨b1,o1,sx,rfl,hc1,hsx,Yt,Qc⟩:=aj3 hru
    obtain rfl:sx=⟨x.toArray⟩:=by unfold S at hsx;injection hsx
    have Kx:=bS9 x wr (HSZ.out _ hpm x (by simp)) (HE.out.below Aa.out)
    have hle:=bn9 x
    rw[bj3] at HS
    have hpl:(x::r).length=r.length+1:=rfl
    rw[hpl] at Ac Qc
    clear hsx hru hpl hpk hmk hpm
    generalize r.length=rl at *
    generalize numOf x=z at *
    go_wp2_with (go_at_call 253;refine Kx.mono ?_;rintro e w1 ⟨rfl,hb1⟩)
    have HB1:Hid (Bq w w1):=Aa.out.trans (hb1.mono Aa.out.size)
    clear hb1 Kx
    go_wp2_with fail
    go_roundw
    case rel=>exact⟨k+1,m+z,by omega,by omega,by go_num,by go_num,HB1,HS⟩
    case measure=>simp[intOf];omega
  .
   have hkN:k=N:=by omega
   have HD:Hid (m=sumOf ps):=(show _=_ from by
    have h:=hmk.out
    rw[hkN,HN.out,List.take_length] at h
    exact h)
   clear hmk;go_wp2_with fail;go_ret;refine⟨?_,Aa.out⟩;rw[<- HD.out];rfl
theorem bE9 {how:Int} {c:Cmd} (h:how<1\/4<how):jchk how c=4:=by unfold jchk;rw[if_pos h]
theorem bF0 {c:Cmd}:jchk 4 c=chk c:=by unfold jchk;rw[if_neg (by omega),if_pos rfl]
theorem bT0 {how:Int} {c:Cmd} (h1:1<=how) (h2:how<4) (h:c.kind=0/\c.word=[]/\c.n=0):jchk how c=0:=by unfold jchk;rw[if_neg (by omega),if_neg (by omega),if_pos h]
theorem bT1 {how:Int} {c:Cmd} (h1:1<=how) (h2:how<4) (h:¬(c.kind=0/\c.word=[]/\c.n=0)):jchk how c=4:=by unfold jchk;rw[if_neg (by omega),if_neg (by omega),if_neg h]
theorem bd8 (how:Int) (c:Cmd) (w:World) (hw:c.word.length<=9223372036854775807) :
 Calls Tryz.prog 195 #[.int .i64 how,c.v] w fun e w'=>e=.returned (.int .i64 (jchk how c))/\Bq w w':=by
 have Ar:=fun W=>am4 c W hw;have hem:=@empty_of c.word;have hfu:=@full_of c.word;obtain⟨k,word,n⟩:=c;unfold Cmd.v at Ar ⊢;simp only at Ar hem hfu ⊢;by_cases hr:how<1\/4<how
 .
  rw[bE9 hr];clear Ar hem hfu;generalize (⟨word.toArray⟩:ByteArray)=sx at *;rcases hr with hr | hr
  . go_enter Tryz.func195,Tryz.ntmps195;go_wp2_with fail;go_ret;exact⟨rfl,b9⟩
  . have hr':¬how<1:=by omega
    go_enter Tryz.func195,Tryz.ntmps195;go_wp2_with fail;go_ret;exact⟨rfl,b9⟩
 .
  by_cases h4:how=4
  . subst h4;rw[bF0];clear hem hfu;generalize (⟨word.toArray⟩:ByteArray)=sx at *;generalize chk ⟨k,word,n⟩=r at *;go_enter Tryz.func195,Tryz.ntmps195;go_wp2_with fail;refine (Ar _).mono ?_;rintro e w1 ⟨rfl,hb1⟩;have HB:Hid (Bq w w1):=b9.trans (hb1.mono (by simp));clear hb1 Ar;go_wp2_with fail;go_ret;exact⟨rfl,HB.out⟩
  .
   have h1:¬how<1:=by omega
   have h2:¬4<how:=by omega
   clear Ar hr;by_cases hz:k=0/\word=[]/\n=0
   . obtain⟨rfl,rfl,rfl⟩:=hz;rw[bT0 (by omega) (by omega) ⟨rfl,rfl,rfl⟩];clear hem hfu;go_enter Tryz.func195,Tryz.ntmps195;go_wp2_with fail;go_ret;exact⟨rfl,b9⟩
   .
    rw[bT1 (by omega) (by omega) hz];obtain⟨d,hd⟩:∃d,(⟨word.toArray⟩:ByteArray).toList.isEmpty=d:=⟨_,rfl⟩;have Eu:¬(k=0/\d=true/\n=0):=by
     rintro ⟨h1,h2,h3⟩;apply hz;refine⟨h1,?_,h3⟩
     cases word with
     | nil=>rfl
     | cons x r=>rw[hfu (by simp)] at hd;rw[<- hd] at h2;cases h2
    clear hz hem hfu;generalize (⟨word.toArray⟩:ByteArray)=sx at *;go_enter Tryz.func195,Tryz.ntmps195;go_wp2_with fail;all_goals first | (go_ret;exact⟨rfl,b9⟩) | (exfalso;apply Eu;simp_all)
theorem cq2 {w:World} {b off:Nat} {ls:List (List UInt8)} (hc:∀j u,(ls.map S)[j]? = some u->w.cell? ⟨b,off+j,none⟩=some u):∀j,j<(ls.map fun l=>(⟨l.toArray⟩:ByteArray)).length->w.cell? ⟨b,off+j,none⟩=some (.string ((ls.map fun l=>(⟨l.toArray⟩:ByteArray)).getD j ByteArray.empty)):=by
 intro j hj;have hj':j<ls.length:=by simpa using hj
 have:=hc j (S ls[j]) (by simp[hj']);rw[this];simp[S,List.getD_eq_getElem?_getD,hj']
theorem cg5 (v:Value) (ls:List (List UInt8)) (w:World) (hr:Reads w v ls.length (ls.map S)) (hl:ls.length<=1000000) :
 Calls Tryz.prog 194 #[v] w fun e w'=>∃r,e=.returned r/\w'.ownsRow w.heap.size 9 1 r ls.length (ls.map S)/\Bq w w':=by
 obtain⟨_,ao,cap,rfl,h2,h3,h4⟩:=hr
 cases ao with
 | none=>
  have h0:ls.length=0:=by
   rcases Nat.eq_zero_or_pos ls.length with h | h
   . exact h
   . obtain⟨b,off,e,_⟩:=h4 (by omega);cases e
  have hn:ls=[]:=List.eq_nil_of_length_eq_zero h0
  subst hn
  refine (Any.slices_Clone_string_nil Tryz.laysClone _ cap w).mono ?_
  rintro e w' ⟨rfl,rfl⟩
  exact⟨_,rfl,World.ownsRow_nil _ _ _ _,Below.refl _ _⟩
 | some a=>
  by_cases h0:ls.length=0
  . have hn:ls=[]:=List.eq_nil_of_length_eq_zero h0
    subst hn
    refine (Any.slices_Clone_string_zero Tryz.laysClone a cap w).mono ?_
    rintro e w' ⟨r,rfl,h5,_,h6⟩
    exact⟨_,rfl,h5,h6⟩
  .
   obtain⟨b,off,e,hc⟩:=h4 h0
   injection e with e
   subst e
   refine (Any.slices_Clone_string Tryz.laysClone b off ls.length cap (ls.map fun l=>⟨l.toArray⟩) w (by simp) (by omega) (cq2 hc)).mono ?_
   rintro e w' ⟨r,rfl,h5,_,h6⟩
   refine⟨_,rfl,?_,h6⟩
   have he:((ls.map fun l=>(⟨l.toArray⟩:ByteArray)).take ls.length).map Value.string=ls.map S:=by
    rw[List.take_of_length_le (by simp),List.map_map]
    rfl
   rw[he] at h5
   exact h5
theorem cg6 {w W:World} {bx:Nat} {a b c:Value} (v:Value) (ls:List (List UInt8)) (hr:Reads W v ls.length (ls.map S)) (hl:ls.length<=1000000) (hB:Bq w W) (h0:W.cell? ⟨bx,0,none⟩=some a) (h1:W.cell? ⟨bx,1,none⟩=some b) (h2:W.cell? ⟨bx,2,none⟩=some c) :
 Calls Tryz.prog 194 #[v] W fun e w'=>∃r,e=.returned r/\Hid (w'.ownsRow W.heap.size 9 1 r ls.length (ls.map S))/\Hid (Bq W w')/\w'.cell? ⟨bx,0,none⟩=some a/\w'.cell? ⟨bx,1,none⟩=some b/\w'.cell? ⟨bx,2,none⟩=some c:=by refine (cg5 v ls W hr hl).mono ?_;rintro e w' ⟨r,rfl,h3,h4⟩;have hlt:bx<W.heap.size:=bLt W _ h0;exact⟨r,rfl,h3,h4,(h4.cell (p:=⟨bx,0,none⟩) hlt).trans h0,(h4.cell (p:=⟨bx,1,none⟩) hlt).trans h1,(h4.cell (p:=⟨bx,2,none⟩) hlt).trans h2⟩
theorem bt5 (c:Cmd) (hc:chk c=0) (v:Value) (ls:List (List UInt8)) (w:World) (hw:c.word.length<=9223372036854775807) (hr:Reads w v ls.length (ls.map S)) (hl:ls.length<=300000) (hsz:∀s∈ls,s.length<=300000) (hK:aa6 w) :
 Calls Tryz.prog 149 #[c.v,v] w fun e w'=>∃r,e=.returned (.tuple #[r,.int .i64 0])/\Reads w' r (made c ls).length ((made c ls).map S)/\Bq w w':=by
 have Ar:=fun W=>am4 c W hw;rw[hc] at Ar;have Em:=fun (v:Value) (W:World) (B:Nat) hB0 hB ho hK=>bL6 c hc v ls W B hB0 hB ho hl hsz hK;have hml:0 < w.heap.size:=by obtain⟨⟨m,hm⟩,_⟩:=hK;exact bLt w _ hm
 obtain⟨k,word,n⟩:=c;unfold Cmd.v at Ar Em ⊢;simp only at Ar Em ⊢;have HR:=qH hr;have HO:Hid _:=Em;have HK:=qH hK;have HM:Hid _:=hml;clear hr Em hK hml;generalize made ⟨k,word,n⟩ ls=M at *;generalize (⟨word.toArray⟩:ByteArray)=sx at *;go_enter Tryz.func149,Tryz.ntmps149;go_wp2_with fail;refine (Ar _).mono ?_;rintro e w1 ⟨rfl,hb1⟩;obtain⟨x0,x1,x2⟩:=aT5 hb1;have HB:Hid (Bq w w1):=b9.trans (hb1.mono (by simp));clear hb1 Ar;go_upto_region 4 with fail;have HBd:Hid (Bq w w1.drew):=HB.out.drew;have HRd:Hid (Reads w1.drew v ls.length (ls.map S)):=HR.out.below HBd.out
 go_region_with (first
  | (go_at_call 194;refine (cg6 v ls HRd.out (by omega) HBd.out x0 x1 x2).mono ?_;rintro e w2 ⟨r2,rfl,O2,B2,y0,y1,y2⟩)
  | (go_at_call 157;refine (HO.out r2 w2 w1.heap.size (Nat.lt_of_lt_of_le HM.out HB.out.size) B2.out.size O2.out ((HK.out.below HBd.out).below B2.out)).mono ?_;rintro e w3 ⟨r3,rfl,R3,B3⟩))
 all_goals
  have HR3:Hid _:=R3
  have HB3:Hid (Bq w w3):=HBd.out.trans ((B2.out.mono HBd.out.size).trans (B3.mono HB.out.size))
  clear R3 B3
  go_wp2_with fail
  go_ret2
  exact⟨r3,rfl,HR3.out,HB3.out⟩
def LRow (w wr:World) (G:Nat) (cur:List (List (List UInt8))):Prop:=
 ∃vs:List Value,wr.heap[G]? = some (.cells vs.toArray 53 (0,0))/\vs.length=cur.length /\ ∀(j:Nat) (p:List (List UInt8)),cur[j]? = some p -> ∃u,vs[j]? = some u/\Reads w u p.length (p.map S)
theorem LRow.rlist {w wr:World} {G:Nat} {cur:List (List (List UInt8))} (h:LRow w wr G cur) (hb:Bq w wr) (hn:cur.length<=1000):RList wr (.slice (some ⟨G,0,none⟩) cur.length cur.length) S cur:=by
 obtain⟨vs,h1,h2,h3⟩:=h;refine⟨vs,⟨h2,_,_,rfl,Nat.le_refl _,by unfold maxLen;omega,fun _=>⟨G,0,rfl,fun j u hu=>?_⟩⟩,fun j p hj=>?_⟩
 . rw[Nat.zero_add,cell_of_row _ _ _ _ _ _ h1];simpa using hu
 . obtain⟨u,h4,h5⟩:=h3 j p hj;exact⟨u,h4,h5.below hb⟩
theorem LRow.keep {w wr wr':World} {G:Nat} {cur:List (List (List UInt8))} (h:LRow w wr G cur) (hk:wr'.heap[G]? = wr.heap[G]?):LRow w wr' G cur:=by obtain⟨vs,h1,h2,h3⟩:=h;exact⟨vs,by rw[hk];exact h1,h2,h3⟩
theorem bT2 {w:World} {b off n cu:Nat} {x:List UInt8} {r:List (List UInt8)} (h:Reads w (.slice (some ⟨b,off,none⟩) n cu) (x::r).length ((x::r).map S)) (a':Option Addr) (ha:cu≠1->a'=some ⟨b,off+1,none⟩):Reads w (.slice a' r.length (cu-1)) r.length (r.map S):=by obtain⟨h1,ao,cap,e,h2,h3,h4⟩:=h;injection e with e1 e2 e3;subst e1 e3;simp only[List.length_cons] at h2;refine⟨by simp,a',cu-1,rfl,by omega,Nat.le_trans (Nat.sub_le _ _) h3,fun hr=>?_⟩;obtain⟨b',off',e,hc⟩:=h4 (by simp);injection e with e;injection e with e1 e2;subst e1 e2;refine⟨b,off+1,ha (by omega),fun j u hu=>?_⟩;rw[Nat.add_assoc,Nat.add_comm 1 j];exact hc (j+1) u (by simpa using hu)
theorem LRow.step {w wr:World} {G k:Nat} {cur:List (List (List UInt8))} {x:List UInt8} {r:List (List UInt8)} {b off n cu:Nat} (h:LRow w wr G cur) (hk:cur[k]? = some (x::r)) (hr:Reads w (.slice (some ⟨b,off,none⟩) n cu) (x::r).length ((x::r).map S)) (a':Option Addr) (ha:cu≠1->a'=some ⟨b,off+1,none⟩):LRow w (wr.setCell ⟨G,k,none⟩ (.slice a' r.length (cu-1))) G (cur.modify k (List.drop 1)):=by
 obtain⟨vs,h1,h2,h3⟩:=h;obtain⟨hkl,_⟩:=gSm hk;refine⟨vs.set k (.slice a' r.length (cu-1)),?_,by simp[h2],fun j p hj=>?_⟩
 . rw[heap_setCell_same _ _ _ _ _ _ h1];simp
 .
  rw[List.getElem?_modify] at hj;by_cases hjk:k=j
  . subst hjk;rw[hk] at hj;simp at hj;subst hj;exact⟨_,List.getElem?_set_self (by omega),bT2 hr a' ha⟩
  . simp[hjk] at hj;obtain⟨u,h4,h5⟩:=h3 j p hj;exact⟨u,by rw[List.getElem?_set_ne hjk];exact h4,h5⟩
theorem LRow.at {w wr:World} {G k:Nat} {cur:List (List (List UInt8))} {x:List UInt8} {r:List (List UInt8)} (h:LRow w wr G cur) (hk:cur[k]? = some (x::r)):∃b off cu sx,wr.cell? ⟨G,k,none⟩=some (.slice (some ⟨b,off,none⟩) (r.length+1) cu)/\Reads w (.slice (some ⟨b,off,none⟩) (r.length+1) cu) (x::r).length ((x::r).map S)/\w.cell? ⟨b,off,none⟩=some (.string sx)/\Value.string sx=S x/\r.length+1<=cu/\cu<=9223372036854775807:=by obtain⟨vs,h1,h2,h3⟩:=h;obtain⟨u,h4,h5⟩:=h3 k _ hk;obtain⟨_,ao,cap,rfl,_⟩:=id h5;obtain⟨b,off,sx,rfl,hc,hs,h6,h7⟩:=aj3 h5;refine⟨b,off,cap,sx,?_,h5,hc,hs,h7,h6⟩;rw[cell_of_row _ _ _ _ _ _ h1];simpa using h4
theorem bF1 {cur:List (List (List UInt8))} {m k:Nat} {x:List UInt8} (h:least cur=some (k,x)):ac1 (m+1) cur=x::ac1 m (cur.modify k (List.drop 1)):=by
 conv=>lhs;unfold ac1
 rw[h]
theorem cg8:(Tryz.prog.info? 53).map (fun i=>(i.zero,i.size,i.bytes))=some (some (.slice none 0 0),1,24):=by kernel_rfl
theorem bT3:(Tryz.prog.info? 53).map (·.size)=some 1:=by kernel_rfl
theorem cq3 {D:List (List UInt8)} {x:List UInt8} {m i:Nat} (hi:D.length=i):((D.map S++List.replicate (m+1) (S [])).toArray).setIfInBounds i (S x)=((D++[x]).map S++List.replicate m (S [])).toArray:=by rw[List.setIfInBounds_toArray,List.set_append_right _ _ (by simp;omega)];simp[hi,List.replicate_succ]
def MRel (w wr:World) (ps:List (List (List UInt8))) (T GL GO:Nat) (i:Nat):Prop:=
 ∃(D:List (List UInt8)) (cur:List (List (List UInt8))),D.length=i/\cur.length=ps.length/\cur.flatten.length=T-i/\D++ac1 (T-i) cur=ac1 T ps/\LRow w wr GL cur/\wr.heap[GO]? = some (.cells (D.map S++List.replicate (T-i) (S [])).toArray 9 (0,0))/\Bq w wr
theorem cg9 (v:Value) (ps:List (List (List UInt8))) (w:World) (hp:RList w v S ps) (hn:ps.length<=1000) (hb:ps.flatten.length<=1000000) :
 Calls Tryz.prog 196 #[v] w fun e w'=>∃r,e=.returned r/\Reads w' r (Z7 ps).length ((Z7 ps).map S)/\Bq w w':=by
 obtain⟨i0,hi,hz0,hz1,hz2⟩:=info_parts aO3;obtain⟨i1,hi',hy0,hy1,hy2⟩:=info_parts cg8;have Cc:=fun (W:World) (h:Bq w W)=>br9 v ps W (hp.below h) hn (by omega);obtain⟨ao,cap,rfl,hc1,hc2⟩:=hp.shape;have HP:=qH hp;obtain⟨N,hN⟩:=qE ps.length;have HN:=qH hN;have hN4:N<=1000:=by omega
 obtain⟨T,hT⟩:=qE ps.flatten.length;have HT:=qH hT;have hTb:T<=1000000:=by omega
 have hb2:i0.bytes*T<=281474976710656:=by rw[hz2];omega
 have hb3:T<=maxLen:=by unfold maxLen;omega
 have hb4:i1.bytes*N<=281474976710656:=by rw[hy2];omega
 have hb5:N<=maxLen:=by unfold maxLen;omega
 rw[<- hT,<- hN] at Cc;rw[<- hN];have HCt:Hid _:=Cc;clear hN hp hn hc1 hc2 hT hb Cc;go_enter Tryz.func196,Tryz.ntmps196;go_wp2_with (at_make;refine wpList_make_full _ rfl (.tmp 8) (.tmp 8) 190 rfl w.heap.size 53 i1 (.slice none 0 0) 1 Tryz.underlying190 hi' hy0 hy1 .i64 .i64 _ _ N rfl rfl rfl rfl hb4 hb5 (Nat.le_refl _) ?_)
 intro w1 Nn Du;have HB1:Hid (Bq w w1):=below_grown Du (Nat.le_refl _);have Qe:w.heap.size<w1.heap.size:=by
  have:=(V7 Nn).1;rcases Nat.lt_or_ge w.heap.size w1.heap.size with h | h
  . exact h
  . rw[Array.getElem?_eq_none h] at this;cases this
 obtain⟨L0,hL0⟩:=qE (List.replicate N (.slice none 0 0:Value));have hL0l:L0.length=N:=by rw[hL0];simp
 have HR1:Hid (w1.heap[w.heap.size]? = some (.cells L0.toArray 53 (0,0))):=by have:=(V7 Nn).1;rw[toList_madeCells_one,<- hL0] at this;exact this
 clear Nn Du hL0;obtain⟨us,Uz,Yv⟩:=id HP.out;have Va:us.length=N:=by rw[HN.out];exact Uz.1
 have HU2:Hid _:=Yv;have HU1:Hid _:=Uz;clear Uz Yv;go_wp2_with (refine wpList_copy_splice rfl (.tmp 10) (.tmp 11) 190 190 rfl 53 Tryz.underlying190 bT3 (some ⟨w.heap.size,0,none⟩) ao N N N cap rfl rfl w.heap.size 0 L0 53 HR1.out us ?c1 ?c2 ?c3 ?c4 w.heap.size w HB1.out (Nat.le_refl _) ?_)
 case c1=>rw[Va];exact (Nat.min_self N).symm
 case c2=>
  intro h0;obtain⟨_,ao',cap',e,_,_,h5⟩:=HU1.out;injection e with e1 e2 e3;obtain⟨b',off',e4,hc⟩:=h5 (by rw[<- HN.out];omega);refine⟨⟨b',off',none⟩,e1.trans e4,fun j u hu=>?_⟩;have Ee:(⟨b',off',none⟩:Addr).add j=⟨b',off'+j,none⟩:=by unfold Addr.add;split <;> simp_all
  rw[Ee];have hcj:=hc j u hu;exact (HB1.out.cell (bLt w _ hcj)).trans hcj
 case c3=>omega
 case c4=>intro u hu;obtain⟨j,hj,rfl⟩:=List.mem_iff_getElem.1 hu;obtain⟨u',h1,h2⟩:=HU2.out j (ps[j]'(by have:=HN.out;omega)) (gEl _);rw[gEl hj] at h1;injection h1 with h1;obtain⟨_,ao',cap',e,_⟩:=h2;rw[h1,e];rfl
 intro w2 hr2 Yw;have HB2:=qH Yw;have Yx:w.heap.size<w2.heap.size:=by
  have:=hr2.out;rcases Nat.lt_or_ge w.heap.size w2.heap.size with h | h
  . exact h
  . rw[Array.getElem?_eq_none h] at this;cases this
 have HL2:Hid (LRow w w2 w.heap.size ps):=⟨us,by
  have:=hr2.out
  rw[this]
  congr 3
  unfold splice
  rw[List.take_zero,List.nil_append,Nat.zero_add,List.drop_of_length_le (by omega),List.append_nil],by rw[Va];exact HN.out,HU2.out⟩
 clear hr2 Yw HU1 HU2 Va HR1;go_wp2_with (first | (go_at_call 251;refine (HCt.out w2 HB2.out).mono ?_;rintro e w9 ⟨rfl,hw9⟩;obtain rfl:w2=w9:=hw9.symm) | (at_make;refine wpList_make_full _ rfl (.tmp 14) (.tmp 14) 53 rfl w2.heap.size 9 i0 (.string ⟨#[]⟩) 1 Tryz.underlying53 hi hz0 hz1 .i64 .i64 _ _ T rfl rfl rfl rfl hb2 hb3 (Nat.le_refl _) ?_))
 intro w3 Cj Ba;have HB3:Hid (Bq w w3):=HB2.out.trans (below_grown Ba (Nat.le_of_lt Yx));have HM3:Hid (MRel w w3 ps T w.heap.size w2.heap.size 0):=by refine⟨[],ps,rfl,rfl,by rw[<- HT.out];rfl,rfl,HL2.out.keep ((below_grown Ba (Nat.le_refl _)).block _ Yx),?_,HB3.out⟩;have:=(V7 Cj).1;rw[toList_madeCells_one] at this;exact this
 clear Cj Ba HL2 HB3 HB2 HB1 hw9 HCt;generalize hGO:w2.heap.size=GO at *;clear hGO;go_wp2_with fail;go_loopw [18] (fun i wr=>∃k:Nat,k<=T/\i=.int .i64 k/\Hid (MRel w wr ps T w.heap.size GO k)) (fun i _=>T-(intOf i).toNat)
 case atStart=>exact⟨0,Nat.zero_le _,rfl,HM3.out⟩
 case round=>
  obtain⟨i,hiT,rfl,hrel⟩:=hrel;obtain⟨D,cur,hD,hcl,hfl,hmg,hlr,hor,Aa⟩:=hrel.out;clear hrel;by_cases hlt:i<T
  .
   obtain⟨k,x,hlx⟩:∃k x,least cur=some (k,x):=by
    cases h:least cur with
    | none=>rw[aP6 h] at hfl;simp at hfl;omega
    | some q=>exact⟨q.1,q.2,rfl⟩
   obtain⟨r,hck,_⟩:=least_some hlx;have hkl:k<cur.length:=(gSm hck).1;obtain⟨b,off,cu,sx,hcG,hru,hcx,hsx,Yt,Qc⟩:=hlr.at hck;have hle:=cf6 _ cur wr (hlr.rlist Aa (by have:=HN.out;omega)) (by have:=HN.out;omega);rw[hcl,<- HN.out,hlx] at hle;have Yy:wr.cell? ⟨b,off,none⟩=some (.string sx):=(Aa.cell (bLt w _ hcx)).trans hcx;have hne:GO≠w.heap.size:=by omega
   obtain⟨m,hm⟩:∃m,T-i=m+1:=⟨T-i-1,by omega⟩;have hTi:T-(i+1)=m:=by omega
   rw[hm] at hfl hmg hor;have Yz:Hid (∀(w4:World),w4.heap=wr.heap->Bq w w4 -> ∀a',(cu≠1->a'=some ⟨b,off+1,none⟩)->MRel w ((w4.setCell ⟨GO,i,none⟩ (.string sx)).setCell ⟨w.heap.size,k,none⟩ (.slice a' r.length (cu-1))) ps T w.heap.size GO (i+1)):=by
    intro w4 h4 hb4 a' ha;refine⟨D++[x],cur.modify k (List.drop 1),by simp[hD],by simp[hcl],?_,?_,?_,?_,?_⟩
    . have:=ak1 hck;rw[hTi];omega
    . rw[hTi,<- hmg,bF1 hlx];simp
    . refine LRow.step ?_ hck hru a' ha;exact hlr.keep (by rw[heap_setCell_other _ _ _ _ (Ne.symm hne),h4])
    . rw[heap_setCell_other _ _ _ _ hne,heap_setCell_same _ _ _ _ _ _ (by rw[h4];exact hor),hTi,hsx,cq3 hD]
    . exact (hb4.setCell (by simp;omega) _).setCell (by simp) _
   have hcO:wr.cell? ⟨GO,i,none⟩=some (S []):=by rw[cell_of_row _ _ _ _ _ _ hor];simp[hD]
   have hfO:wr.frozen? ⟨GO,i,none⟩=false:=frozen_of_row _ _ _ _ _ hor;have hfG:wr.frozen? ⟨w.heap.size,k,none⟩=false:=by obtain⟨vs,h1,_⟩:=hlr;exact frozen_of_row _ _ _ _ _ h1
   have Hsx:Hid _:=hsx;have HB:=qH Aa;have hkN:k<N:=by have:=HN.out;omega
   simp only[lix] at hle;clear hsx Aa hlr hor hmg hru hcx hfl hcl hD hck hlx hkl;generalize r.length=rl at *;go_wp2_with (go_at_call 252;refine hle.mono ?_;rintro e w4 ⟨rfl,q,rfl⟩)
   have g1:(wr.drewN q).cell? ⟨w.heap.size,k,none⟩=some (.slice (some ⟨b,off,none⟩) (rl+1) cu):=hcG;have g2:(wr.drewN q).cell? ⟨b,off,none⟩=some (.string sx):=Yy;have g3:(wr.drewN q).cell? ⟨GO,i,none⟩=some (S []):=hcO;have g4:(wr.drewN q).frozen? ⟨GO,i,none⟩=false:=hfO;have g5:(wr.drewN q).frozen? ⟨w.heap.size,k,none⟩=false:=hfG;have g6:((wr.drewN q).setCell ⟨GO,i,none⟩ (.string sx)).cell? ⟨w.heap.size,k,none⟩=some (.slice (some ⟨b,off,none⟩) (rl+1) cu):=by rw[World.cell?_setCell_other _ _ _ _ (by intro e;injection e with e;exact hne e)];exact g1
   have g7:((wr.drewN q).setCell ⟨GO,i,none⟩ (.string sx)).frozen? ⟨w.heap.size,k,none⟩=false:=by rw[World.frozen?_setCell];exact g5
   have HR4:Hid _:=Yz.out (wr.drewN q) rfl (bs0 HB.out _);clear hcG Yy hcO hfO hfG hle Yz;go_wp2_with fail;go_roundw
   case rel=>exact⟨i+1,by omega,by go_num,HR4.out _ (fun h=>by rw[if_neg h])⟩
   case measure=>simp[intOf];omega
  .
   have Za:i=T:=by omega
   have HO:Hid (Reads wr (.slice (some ⟨GO,0,none⟩) T T) (Z7 ps).length ((Z7 ps).map S)):=by
    rw[Za,Nat.sub_self] at hmg hor;have e:D=Z7 ps:=by
     have:D++ac1 0 cur=D:=by simp[ac1]
     rw[this] at hmg;rw[hmg];unfold Z7;rw[HT.out]
    simp only[List.replicate_zero,List.append_nil] at hor;have h1:=at6 (B:=0) (n:=T) hor (by simp[hD,Za]) (Nat.zero_le _) (by omega);have h2:=Reads.of_owns h1;have h3:(Z7 ps).length=T:=by rw[<- e];omega
    rw[h3,<- e];exact h2
   have HB:=qH Aa;clear hmg hor hlr hfl Aa hD hcl;go_wp2_with fail;go_ret;exact⟨_,rfl,HO.out,HB.out⟩
end Go.Proofs.YtllgglolcgdehaaGreatDoor
