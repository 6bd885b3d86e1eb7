/- What the developers' join's least does, and more. -/
import Derived.Test.YtllgglolcgdehaaGreatDoorXa08
set_option maxRecDepth 100000
set_option maxHeartbeats 16000000
namespace Go.Proofs.YtllgglolcgdehaaGreatDoor
open Go.RowKit Go.Gs
set_option linter.unusedVariables false
theorem less_eq:∀(x y:List UInt8),Op.bytesLess x y=decide (x<y)
 | [],[]=>by simp[Op.bytesLess]
 | _::_,[]=>by simp[Op.bytesLess]
 | [],_::_=>by simp[Op.bytesLess]
 | a::x,b::y=>by
  rw[Op.bytesLess,less_eq x y]
  simp only[List.cons_lt_cons_iff]
  by_cases h1:a<b <;> by_cases h2:a=b <;> by_cases h3:x<y <;> simp[h1,h2,h3]
theorem str_data {sx:ByteArray} {l:List UInt8} (h:Value.string sx=S l):sx.toList=l:=by
 unfold S at h
 injection h with h
 rw[h,ByteArray.toList_eq]
theorem less_is {sx tx:ByteArray} {x t:List UInt8} (hs:Value.string sx=S x) (ht:Value.string tx=S t):Op.bytesLess sx.toList tx.toList=decide (x<t):=by
 rw[str_data hs,str_data ht,less_eq]
theorem below_dn {B:Nat} {a w:World} (h:Below B a w) (q:Nat):Below B a (w.drewN q):=⟨h.os,h.tape,h.output,h.size,h.block⟩
def lix:Option (Nat × List UInt8)->Int
 | none=>-1
 | some (j,_)=>(j:Int)
theorem leastTo_nil {ps:List (List (List UInt8))} {k:Nat} (h:ps[k]? = some []):leastTo ps (k+1)=leastTo ps k:=by simp[leastTo,h]
theorem leastTo_first {ps:List (List (List UInt8))} {k:Nat} {x:List UInt8} {r:List (List UInt8)} (h:ps[k]? = some (x::r)) (hn:leastTo ps k=none):leastTo ps (k+1)=some (k,x):=by simp[leastTo,h,hn]
theorem leastTo_less {ps:List (List (List UInt8))} {k j:Nat} {x t:List UInt8} {r:List (List UInt8)} (h:ps[k]? = some (x::r)) (hn:leastTo ps k=some (j,t)) (hl:x<t):leastTo ps (k+1)=some (k,x):=by simp[leastTo,h,hn,hl]
theorem leastTo_more {ps:List (List (List UInt8))} {k j:Nat} {x t:List UInt8} {r:List (List UInt8)} (h:ps[k]? = some (x::r)) (hn:leastTo ps k=some (j,t)) (hl:¬x<t):leastTo ps (k+1)=some (j,t):=by simp[leastTo,h,hn,hl]
theorem leastTo_at {ps:List (List (List UInt8))} {k j:Nat} {t:List UInt8} (h:leastTo ps k=some (j,t)):j<k /\ ∃r,ps[j]? = some (t::r):=by
 obtain⟨h1,h2,_⟩:=leastTo_some ps k j t h
 refine⟨h1,?_⟩
 cases hp:ps[j]? with
 | none=>rw[hp] at h2;cases h2
 | some p=>
  rw[hp] at h2
  cases p with
  | nil=>cases h2
  | cons x r=>
   simp only[Option.bind_some,List.head?_cons,Option.some.injEq] at h2
   exact⟨r,by rw[h2]⟩
theorem reads_first {w:World} {au:Option Addr} {cu:Nat} {x:List UInt8} {r:List (List UInt8)} (h:Reads w (.slice au (x::r).length cu) (x::r).length ((x::r).map S)) :
 ∃b off sx,au=some ⟨b,off,none⟩/\w.cell? ⟨b,off,none⟩=some (.string sx)/\Value.string sx=S x/\cu<=9223372036854775807/\(x::r).length<=cu:=by
 obtain⟨_,ao,cap,e,h1,h2,h5⟩:=h
 injection e with e1 e2 e3
 subst e1 e3
 obtain⟨b,off,hao,hc⟩:=h5 (by simp)
 refine⟨b,off,⟨x.toArray⟩,hao,?_,rfl,by simpa[maxLen] using h2,h1⟩
 have:=hc 0 (S x) (by simp)
 exact this
theorem least_is (v:Value) (ps:List (List (List UInt8))) (w:World) (hp:RList w v S ps) (hn:ps.length<=1000) :
 Calls Tryz.prog 252 #[v] w fun e w'=>e=.returned (.int .i64 (lix (least ps))) /\ ∃q,w'=w.drewN q:=by
 obtain⟨ao,cap,rfl,hc1,hc2⟩:=hp.shape
 have HP:Hid (RList w (.slice ao ps.length cap) S ps):=hp
 obtain⟨N,hN⟩:∃N,N=ps.length:=⟨_,rfl⟩
 have HN:Hid (N=ps.length):=hN
 have hN4:N<=1000:=by omega
 have hcN:N<=cap:=by omega
 have hcm:cap<=9223372036854775807:=by simpa[maxLen] using hc2
 rw[<- hN]
 clear hN hp hn hc1 hc2
 go_enter Tryz.func252,Tryz.ntmps252
 go_wp2_with fail
 go_loopw [3,8] (fun s i wr=>∃k:Nat,∃z:Int,k<=N/\i=.int .i64 k/\s=.int .i64 z/\(∃q,wr=w.drewN q)/\Hid (z=lix (leastTo ps k)))
  (fun _ i _=>N-(intOf i).toNat)
 case atStart=>exact⟨0,-1,Nat.zero_le _,rfl,rfl,⟨0,rfl⟩,(show _=_ from rfl)⟩
 case round=>
  obtain⟨k,z,hk,rfl,rfl,⟨q0,hw⟩,hz⟩:=hrel
  have HPr:Hid (RList wr (.slice ao N cap) S ps):=by rw[hw,HN.out];exact HP.out.below (below_dn (Below.refl _ _) _)
  have HW:Hid (wr=w.drewN q0):=hw
  clear hw
  by_cases hlt:k<N
  .
   obtain⟨p,hpk⟩:∃p,ps[k]? = some p:=⟨_,gEl (by have:=HN.out;omega)⟩
   obtain⟨b,off,au,cu,rfl,hcell,hru⟩:=HPr.out.at hpk
   cases p with
   | nil=>
    have HL:Hid _:=leastTo_nil hpk
    simp only[List.length_nil] at hcell
    clear hpk hru
    go_wp2_with fail
    go_quiet (fail)
    go_wp2_with fail
    go_roundw
    case rel=>exact⟨k+1,z,by omega,by go_num,rfl,⟨_,by rw[HW.out,World.drewN_drewN]⟩,(show _=_ from by rw[HL.out];exact hz.out)⟩
    case measure=>simp[intOf];omega
   | cons x r=>
    obtain⟨b1,o1,sx,rfl,hc1,hsx,hcu1,hcu2⟩:=reads_first hru
    have Hsx:Hid _:=hsx
    have hpl:(x::r).length=r.length+1:=rfl
    rw[hpl] at hcell hcu2
    clear hsx hru hpl
    generalize r.length=rl at *
    cases hlk:leastTo ps k with
    | none=>
     have HL:Hid _:=leastTo_first hpk hlk
     obtain rfl:z = -1:=by rw[hz.out,hlk];rfl
     clear hpk hlk
     go_wp2_with fail
     go_quiet (fail)
     go_wp2_with fail
     go_roundw
     case rel=>exact⟨k+1,k,by omega,by go_num,rfl,⟨_,by rw[HW.out,World.drewN_drewN]⟩,(show _=_ from by rw[HL.out];rfl)⟩
     case measure=>simp[intOf];omega
    | some jt=>
     obtain⟨j,t⟩:=jt
     obtain⟨hjk,r',hpj⟩:=leastTo_at hlk
     obtain⟨b',off',au',cu',e',hcj,hrj⟩:=HPr.out.at hpj
     injection e' with e'
     injection e' with e1 e2
     subst e1 e2
     obtain⟨b2,o2,tx,rfl,hc2,htx,hcu3,hcu4⟩:=reads_first hrj
     have Htx:Hid _:=htx
     have hpl:(t::r').length=r'.length+1:=rfl
     rw[hpl] at hcj hcu4
     clear htx hrj hpl hpj
     generalize r'.length=rl' at *
     obtain rfl:z=(j:Int):=by rw[hz.out,hlk];rfl
     have hj0:decide ((j:Int)<0)=false:=decide_eq_false (by omega)
     have hless:=less_is Hsx.out Htx.out
     by_cases hxt:x<t
     .
      have HL:Hid _:=leastTo_less hpk hlk hxt
      rw[decide_eq_true hxt] at hless
      clear hpk hlk hz hxt
      go_wp2_with fail
      go_quiet (fail)
      go_wp2_with fail
      go_roundw
      case rel=>exact⟨k+1,k,by omega,by go_num,rfl,⟨_,by rw[HW.out,World.drewN_drewN]⟩,(show _=_ from by rw[HL.out];rfl)⟩
      case measure=>simp[intOf];omega
     .
      have HL:Hid _:=leastTo_more hpk hlk hxt
      rw[decide_eq_false hxt] at hless
      clear hpk hlk hz hxt
      go_wp2_with fail
      go_quiet (fail)
      go_wp2_with fail
      go_roundw
      case rel=>exact⟨k+1,j,by omega,by go_num,rfl,⟨_,by rw[HW.out,World.drewN_drewN]⟩,(show _=_ from by rw[HL.out];rfl)⟩
      case measure=>simp[intOf];omega
  .
   have hkN:k=N:=by omega
   have HD:Hid (z=lix (least ps)):=(show _=_ from by
    have h:=hz.out
    rw[hkN,HN.out] at h
    exact h)
   clear hz
   go_wp2_with fail
   go_ret
   refine⟨?_,⟨q0,HW.out⟩⟩
   rw[<- HD.out]
   rfl
theorem row_of_owns {w:World} {B:Nat} {t:TypeId} {G n:Nat} {xs:List Value} (h:w.ownsRow B t 1 (.slice (some ⟨G,0,none⟩) n n) n xs):w.heap[G]? = some (.cells xs.toArray t (0,0))/\xs.length=n/\B<=G:=by
 obtain⟨h1,h2 | ⟨g,cap,cur,h2,h3,h4,h5,h6,h7,h8⟩⟩:=h
 . cases h2.1
 .
  injection h2 with e1 e2 e3
  injection e1 with e1
  injection e1 with e1
  subst e1 e3
  have hx:cur=xs.toArray:=by
   rw[<- h8,List.take_of_length_le (by simp;omega)]
  exact⟨by rw[h4,hx],by omega,h3⟩
theorem owns_of_row {w:World} {B:Nat} {t:TypeId} {G n:Nat} {xs:List Value} (h:w.heap[G]? = some (.cells xs.toArray t (0,0))) (hl:xs.length=n) (hB:B<=G) (hm:n<=1000000):w.ownsRow B t 1 (.slice (some ⟨G,0,none⟩) n n) n xs:=
 ⟨by omega,.inr ⟨G,n,xs.toArray,rfl,hB,h,Nat.le_refl _,by unfold maxLen;omega,by simp[hl],by rw[Nat.mul_one,<- hl];simp⟩⟩
theorem below_grown {B:Nat} {w w1:World} (h:w.grownBy w1 none) (hB:B<=w.heap.size):Below B w w1:=⟨h.os,h.tape,h.output,h.size,fun k hk=>h.block k (by omega) (by simp)⟩
theorem beh_step {ps:List (List (List UInt8))} {k:Nat} {p:List (List UInt8)} (h:ps[k]? = some p):splice (((ps.take k).flatten).map S++List.replicate (ps.flatten.length-((ps.take k).flatten).length) (S [])) ((ps.take k).flatten).length (p.map S)=((ps.take (k+1)).flatten).map S++List.replicate (ps.flatten.length-((ps.take (k+1)).flatten).length) (S []):=by
 have h1:=flat_at_le h
 rw[flat_step h]
 generalize ((ps.take k).flatten)=A at *
 unfold splice
 rw[List.take_append_of_le_length (by simp),List.take_of_length_le (by simp),List.drop_append,List.drop_of_length_le (by simp)]
 simp only[List.length_map,List.nil_append,List.drop_replicate,List.map_append,List.length_append,List.append_assoc]
 congr 3
 omega
theorem infoStr1:(Tryz.prog.info? 9).map (·.size)=some 1:=by kernel_rfl
theorem behind_is (v:Value) (ps:List (List (List UInt8))) (w:World) (hp:RList w v S ps) (hn:ps.length<=1000) (hb:ps.flatten.length<=1000000) :
 Calls Tryz.prog 198 #[v] w fun e w'=>∃r,e=.returned r/\w'.ownsRow w.heap.size 9 1 r ps.flatten.length (ps.flatten.map S)/\Below w.heap.size w w':=by
 obtain⟨i0,hi,hz0,hz1,hz2⟩:=info_parts infoStr
 have hcount:=count_is v ps w hp hn (by omega)
 obtain⟨ao,cap,rfl,hc1,hc2⟩:=hp.shape
 have HP:Hid (RList w (.slice ao ps.length cap) S ps):=hp
 obtain⟨N,hN⟩:∃N,N=ps.length:=⟨_,rfl⟩
 have HN:Hid (N=ps.length):=hN
 have hN4:N<=1000:=by omega
 obtain⟨T,hT⟩:∃T,T=ps.flatten.length:=⟨_,rfl⟩
 have HT:Hid (T=ps.flatten.length):=hT
 have hTb:T<=1000000:=by omega
 have hb2:i0.bytes*T<=281474976710656:=by rw[hz2];omega
 have hb3:T<=maxLen:=by unfold maxLen;omega
 rw[<- hT,<- hN] at hcount
 rw[<- hT,<- hN]
 clear hN hp hn hc1 hc2 hT hb
 go_enter Tryz.func198,Tryz.ntmps198
 go_wp2_with (first | (go_at_call 251;refine hcount.mono ?_;rintro e w9 ⟨rfl,hw9⟩;obtain rfl:w=w9:=hw9.symm) | (at_make;refine wpList_make_full _ rfl (.tmp 8) (.tmp 8) 53 rfl w.heap.size 9 i0 (.string ⟨#[]⟩) 1 Tryz.underlying53 hi hz0 hz1 .i64 .i64 _ _ T rfl rfl rfl rfl hb2 hb3 (Nat.le_refl _) ?_))
 intro w2 hout hgrow2
 have HB2:Hid (Below w.heap.size w w2):=below_grown hgrow2 (Nat.le_refl _)
 have HR2:Hid (w2.heap[w.heap.size]? = some (.cells ((((ps.take 0).flatten).map S++List.replicate (T-0) (S [])).toArray) 9 (0,0))):=by
  have:=(row_of_owns hout).1
  rw[toList_madeCells_one] at this
  exact this
 clear hout hgrow2 hw9 hcount
 go_wp2_with fail
 go_loopw [4,13] (fun s i wr=>∃k m:Nat,∃ro,k<=N/\m<=T/\i=.int .i64 k/\s=.slice ro (T-m) (T-m)/\(m<T->ro=some ⟨w.heap.size,m,none⟩)/\Hid (m=((ps.take k).flatten).length)/\Hid (wr.heap[w.heap.size]? = some (.cells ((((ps.take k).flatten).map S++List.replicate (T-m) (S [])).toArray) 9 (0,0)))/\Hid (Below w.heap.size w wr))
  (fun _ i _=>N-(intOf i).toNat)
 case atStart=>exact⟨0,0,_,Nat.zero_le _,Nat.zero_le _,rfl,rfl,fun _=>rfl,(show _=_ from by simp),HR2.out,HB2.out⟩
 case round=>
  obtain⟨k,m,ro,hk,hm,rfl,rfl,hro,hmk,hrow,hbel⟩:=hrel
  by_cases hlt:k<N
  .
   obtain⟨p,hpk⟩:∃p,ps[k]? = some p:=⟨_,gEl (by have:=HN.out;omega)⟩
   have hsum:m+p.length<=T:=by
    have h1:=flat_at_le hpk
    have h2:=hmk.out
    have h3:=HT.out
    omega
   have HS:Hid (m+p.length=((ps.take (k+1)).flatten).length):=(show _=_ from by rw[flat_step hpk,List.length_append,<- hmk.out])
   have HSp:Hid _:=beh_step hpk
   have HPr:Hid (RList wr (.slice ao N cap) S ps):=by rw[HN.out];exact HP.out.below hbel.out
   obtain⟨b,off,au,cu,rfl,hcell,hru⟩:=HPr.out.at hpk
   obtain⟨L,hL⟩:∃L,L=((ps.take k).flatten).map S++List.replicate (T-m) (S []):=⟨_,rfl⟩
   have HL:Hid (L=((ps.take k).flatten).map S++List.replicate (T-m) (S [])):=hL
   have hLl:L.length=T:=by rw[hL,List.length_append,List.length_map,List.length_replicate,<- hmk.out];omega
   obtain⟨cs,hcs⟩:∃cs,cs=p.map S:=⟨_,rfl⟩
   have hcl:cs.length=p.length:=by rw[hcs];simp
   have HC:Hid (cs=p.map S):=hcs
   have HRU:Hid _:=hru
   have hrow':wr.heap[w.heap.size]? = some (.cells L.toArray 9 (0,0)):=by rw[hL];exact hrow.out
   have HROW:Hid _:=hrow'
   clear hpk hrow hL hcs hru hrow'
   obtain⟨pl,hpl⟩:∃pl,pl=p.length:=⟨_,rfl⟩
   have HPL:Hid (pl=p.length):=hpl
   rw[<- hpl] at hcell hsum hcl
   clear hpl
   go_wp2_with (refine wpList_copy_splice rfl (.tmp 18) (.tmp 19) 53 53 rfl 9 Tryz.underlying53 infoStr1 ro au (T-m) (T-m) pl cu rfl rfl w.heap.size m L 9 HROW.out cs ?c1 ?c2 ?c3 ?c4 w.heap.size w hbel.out (Nat.le_refl _) ?_)
   case c1=>rw[hcl];exact (Nat.min_eq_left (by omega)).symm
   case c2=>
    intro h0
    refine⟨hro (by omega),?_⟩
    obtain⟨_,ao',cap',e,_,_,h5⟩:=HRU.out
    injection e with e1 e2 e3
    obtain⟨b',off',e4,hc⟩:=h5 (by rw[<- HPL.out];omega)
    refine⟨⟨b',off',none⟩,e1.trans e4,fun j u hu=>?_⟩
    have hadd:(⟨b',off',none⟩:Addr).add j=⟨b',off'+j,none⟩:=by unfold Addr.add;split <;> simp_all
    rw[hadd]
    exact hc j u (by rw[<- HC.out];exact hu)
   case c3=>omega
   case c4=>intro u hu;rw[HC.out] at hu;obtain⟨x,_,rfl⟩:=List.mem_map.1 hu;rfl
   intro w3 hr3 hb3'
   have HB3:Hid (Below w.heap.size w w3):=hb3'
   have HR3:Hid (w3.heap[w.heap.size]? = some (.cells ((((ps.take (k+1)).flatten).map S++List.replicate (T-(m+pl)) (S [])).toArray) 9 (0,0))):=(show _=_ from by
    have e1:=hr3.out
    have e2:=HSp.out
    rw[<- hmk.out,<- HT.out,<- HL.out,<- HC.out,<- HS.out,<- HPL.out] at e2
    rw[e1,e2])
   clear hr3 hb3'
   go_wp2_with fail
   go_roundw
   case rel=>exact⟨k+1,m+pl,_,by omega,by omega,by go_num,by rw[Nat.sub_add_eq],fun h=>by simp only[hro (by omega),Addr.add];simp;rw[if_neg (by omega)];by_cases h0:pl=0 <;> simp[h0],(show _=_ from by rw[<- HS.out,HPL.out]),HR3.out,HB3.out⟩
   case measure=>simp[intOf];omega
  .
   have hkN:k=N:=by omega
   have HO:Hid (wr.ownsRow w.heap.size 9 1 (.slice (some ⟨w.heap.size,0,none⟩) T T) T (ps.flatten.map S)):=by
    have h1:=hrow.out
    have h2:=hmk.out
    rw[hkN,HN.out,List.take_length] at h1 h2
    have h3:T-m=0:=by have:=HT.out;omega
    rw[h3] at h1
    simp only[List.replicate_zero,List.append_nil] at h1
    exact owns_of_row h1 (by rw[List.length_map];exact HT.out.symm) (Nat.le_refl _) (by omega)
   clear hrow hmk
   go_wp2_with fail
   go_ret
   exact⟨_,rfl,HO.out,hbel.out⟩
end Go.Proofs.YtllgglolcgdehaaGreatDoor
namespace Go.Gs
open Go.RowKit
set_option linter.unusedVariables false
theorem parse_snoc (l:List UInt8) (c:UInt8):∀(acc m:Nat),Lib.parseUint10 acc l=.ok m->Lib.parseUint10 acc (l++[c])=Lib.parseUint10 m [c]:=by
 induction l with
 | nil=>
  intro acc m h
  simp only[Lib.parseUint10] at h
  injection h with h
  rw[h];rfl
 | cons a l ih=>
  intro acc m h
  rw[List.cons_append,Lib.parseUint10]
  rw[Lib.parseUint10] at h
  split at h
  .
   rename_i h1
   rw[if_pos h1]
   split at h
   . cases h
   .
    rename_i h2
    rw[if_neg h2]
    split at h
    . cases h
    . rename_i h3
      rw[if_neg h3]
      exact ih _ _ h
  . cases h
theorem digit_byte (d:Nat) (h:d<10):(UInt8.ofNat (48+d)).toNat=48+d:=by
 rw[UInt8.toNat_ofNat']
 exact Nat.mod_eq_of_lt (by omega)
theorem parse_digits:∀u:Nat,u<=1000000->Lib.parseUint10 0 (Lib.decDigits u)=.ok u:=by
 intro u
 induction u using Nat.strongRecOn with
 | ind u ih=>
  intro hu
  rw[Lib.decDigits]
  split
  . rename_i h
    simp only[Lib.parseUint10,digit_byte u h]
    rw[if_pos (by omega),if_neg (by omega),if_neg (by omega)]
    congr 1;omega
  . rename_i h
    rw[parse_snoc _ _ _ _ (ih (u / 10) (by omega) (by omega))]
    simp only[Lib.parseUint10,digit_byte (u % 10) (Nat.mod_lt _ (by omega))]
    rw[if_pos (by omega),if_neg (by omega),if_neg (by omega)]
    congr 1;omega
theorem digits_head:∀u:Nat,∃c r,Lib.decDigits u=c::r/\48<=c.toNat/\c.toNat<=57:=by
 intro u
 induction u using Nat.strongRecOn with
 | ind u ih=>
  rw[Lib.decDigits]
  split
  . rename_i h
    exact⟨_,[],rfl,by rw[digit_byte u h];omega,by rw[digit_byte u h];omega⟩
  . rename_i h
    obtain⟨c,r,e,h1,h2⟩:=ih (u / 10) (by omega)
    exact⟨c,r++[UInt8.ofNat (48+u % 10)],by rw[e];rfl,h1,h2⟩
theorem atoiAll_itoa (k:Nat) (h:k<=1000000):Lib.atoiAll (Lib.itoa (k:Int))=.ok (k:Int):=by
 have e:Lib.itoa (k:Int)=Lib.decDigits k:=by
  unfold Lib.itoa
  rw[if_neg (by omega)]
  simp
 obtain⟨c,r,e1,h1,h2⟩:=digits_head k
 have hp:=parse_digits k h
 rw[e]
 rw[e1] at hp ⊢
 rw[Lib.atoiAll_plain c r (by omega) (by omega)]
 unfold Lib.parseMag
 rw[if_neg (by simp),hp]
 unfold Lib.signless
 simp only
 rw[if_neg (by omega)]
theorem numOf_ok {s:List UInt8} {n:Int} (h:Lib.atoiAll s=.ok n):numOf s=if 0<=n/\n<=4000/\Lib.itoa n=s then n.toNat else 0:=by
 split
 . rename_i hc
   obtain⟨h0,h1,h2⟩:=hc
   obtain⟨k,rfl⟩:=Int.eq_ofNat_of_zero_le h0
   rw[<- h2,Int.toNat_natCast,numOf_itoa k (by omega)]
 .
  rename_i hc
  apply numOf_none
  intro k hk e
  rw[<- e,atoiAll_itoa k (by omega)] at h
  injection h with h
  exact hc ⟨by omega,by omega,by rw[<- h];exact e⟩
theorem numOf_bad {s:List UInt8} (h:∀n,Lib.atoiAll s≠.ok n):numOf s=0:=by
 apply numOf_none
 intro k hk e
 exact h k (by rw[<- e];exact atoiAll_itoa k (by omega))
end Go.Gs
namespace Go.Proofs.YtllgglolcgdehaaGreatDoor
open Go.RowKit Go.Gs
set_option linter.unusedVariables false
theorem hasWord_is (k:Int) (w:World) :
 Calls Tryz.prog 189 #[.int .i64 k] w fun e w'=>e=.returned (.bool (decide (uses k=1)))/\w'=w:=by
 by_cases h1:k=1
 .
  subst h1
  go_enter Tryz.func189,Tryz.ntmps189
  go_wp2
  go_ret
  exact⟨rfl,rfl⟩
 .
  by_cases h2:k=2
  . subst h2
    go_enter Tryz.func189,Tryz.ntmps189
    go_wp2
    go_ret
    exact⟨rfl,rfl⟩
  .
   by_cases h3:k=3
   . subst h3
     go_enter Tryz.func189,Tryz.ntmps189
     go_wp2
     go_ret
     exact⟨rfl,rfl⟩
   .
    have hu:decide (uses k=1)=false:=by
     apply decide_eq_false
     unfold uses
     split
     . omega
     . split
       . decide
       . split <;> decide
    rw[hu]
    go_enter Tryz.func189,Tryz.ntmps189
    go_wp2
    go_ret
    exact⟨by simp[h1,h2,h3],rfl⟩
theorem hasNumber_is (k:Int) (w:World) :
 Calls Tryz.prog 190 #[.int .i64 k] w fun e w'=>e=.returned (.bool (decide (uses k=2)))/\w'=w:=by
 by_cases h1:k=4
 .
  subst h1
  go_enter Tryz.func190,Tryz.ntmps190
  go_wp2
  go_ret
  exact⟨rfl,rfl⟩
 .
  by_cases h2:k=9
  . subst h2
    go_enter Tryz.func190,Tryz.ntmps190
    go_wp2
    go_ret
    exact⟨rfl,rfl⟩
  .
   by_cases h3:k=10
   . subst h3
     go_enter Tryz.func190,Tryz.ntmps190
     go_wp2
     go_ret
     exact⟨rfl,rfl⟩
   .
    have hu:decide (uses k=2)=false:=by
     apply decide_eq_false
     unfold uses
     split
     . decide
     . split
       . omega
       . split <;> decide
    rw[hu]
    go_enter Tryz.func190,Tryz.ntmps190
    go_wp2
    go_ret
    exact⟨by simp[h1,h2,h3],rfl⟩
theorem box_of {w:World} {o:Obj}:Below w.heap.size w (w.alloc o):=(Below.refl _ w).alloc (Nat.le_refl _) o
theorem take_word {l:List UInt8} {k:Nat} {c:UInt8} (hl:l[k]? = some c) (h:∀x∈l.take k,wordByte x=true) (hc:wordByte c=true):∀x∈l.take (k+1),wordByte x=true:=by
 intro x hx
 rw[List.take_add_one,hl] at hx
 simp only[Option.toList_some,List.mem_append,List.mem_singleton] at hx
 rcases hx with hx | rfl
 . exact h x hx
 . exact hc
theorem no_word {l:List UInt8} {k:Nat} {c:UInt8} (hl:l[k]? = some c) (hc:wordByte c=false):l.all wordByte=false:=by
 rw[List.all_eq_false]
 exact⟨c,mGt hl,by simp[hc]⟩
theorem word_loop (l : List UInt8) (w : World) (h0 : 0 < l.length) (h1 : l.length ≤ 12) :
    Calls Tryz.prog 103 #[.string ⟨l.toArray⟩] w fun e w' => e = .returned (.bool (l.all wordByte)) ∧ w' = w := by
  have hsz : (⟨l.toArray⟩ : ByteArray).size = l.length := by simp [ByteArray.size]
  have hget : Hid (∀ k (h : k < l.length) (h' : k < (⟨l.toArray⟩ : ByteArray).size), l[k]? = some ((⟨l.toArray⟩ : ByteArray)[k]'h')) := by
    intro k h h'
    rw [List.getElem?_eq_getElem h]
    rfl
  generalize hsx : (⟨l.toArray⟩ : ByteArray) = sx at *
  have hem : sx.toList.isEmpty = false := by
    subst hsx
    cases l with
    | nil => simp at h0
    | cons c l => simp
  clear hsx
  go_enter Tryz.func103, Tryz.ntmps103
  go_wp2_with fail
  go_loopw [14] (fun i wr => ∃ k : Nat, k ≤ l.length ∧ i = .int .i64 k ∧ wr = w ∧ Hid (∀ x ∈ l.take k, wordByte x = true)) (fun i _ => l.length - (intOf i).toNat)
  case atStart => exact ⟨0, Nat.zero_le _, rfl, rfl, by intro x hx; simp at hx⟩
  case round =>
    obtain ⟨k, hk, rfl, rfl, hall⟩ := hrel
    by_cases hlt : k < l.length
    . have hg : Hid _ := hget.out k hlt (by omega)
      go_wp2_with fail
      all_goals first
        | (go_ret; refine ⟨?_, rfl⟩; show Ending.returned (.bool false) = _; rw [no_word hg.out (by simp [wordByte]; omega)])
        | (go_roundw
           case rel => exact ⟨k + 1, by omega, by go_num, by simp, take_word hg.out hall.out (by simp [wordByte]; omega)⟩
           case measure => simp [intOf]; omega)
    . go_wp2_with fail
      go_ret
      refine ⟨?_, rfl⟩
      have hkl : k = l.length := by omega
      have h := hall.out
      rw [hkl, List.take_length] at h
      show Ending.returned (.bool true) = _
      rw [List.all_eq_true.2 h]
theorem word_is (l:List UInt8) (w:World) (hm:l.length<=9223372036854775807) :
 Calls Tryz.prog 103 #[.string ⟨l.toArray⟩] w fun e w'=>e=.returned (.bool (isWord l))/\w'=w:=by
 by_cases h0:l=[]
 .
  subst h0
  go_enter Tryz.func103,Tryz.ntmps103
  go_wp2
  go_ret
  exact⟨rfl,rfl⟩
 .
  have hl0:0<l.length:=List.length_pos_iff.2 h0
  by_cases h1:l.length<=12
  . have:isWord l=l.all wordByte:=by simp[isWord,hl0,h1]
    rw[this]
    exact word_loop l w hl0 h1
  .
   have hw:isWord l=false:=by simp[isWord,h1]
   rw[hw]
   have hsz:(⟨l.toArray⟩:ByteArray).size=l.length:=by simp[ByteArray.size]
   generalize hsx:(⟨l.toArray⟩:ByteArray)=sx at *
   have hem:sx.toList.isEmpty=false:=by
    subst hsx
    cases l with
    | nil=>simp at h0
    | cons c l=>simp
   clear hsx
   go_enter Tryz.func103,Tryz.ntmps103
   go_wp2
   go_ret
   exact⟨rfl,rfl⟩
end Go.Proofs.YtllgglolcgdehaaGreatDoor
namespace Go.Gs
open Go.RowKit
set_option linter.unusedVariables false
theorem firstBad_zero:∀l:List Int,firstBad l=0 ↔ ∀e∈l,e=0
 | []=>by simp[firstBad]
 | e::r=>by
  unfold firstBad
  split
  . rename_i h
    rw[firstBad_zero r];simp[h]
  . rename_i h
    simp[h]
theorem lchk_zero {x:SLine} (h:lchk x=0):1<=x.fr.length/\x.fr.length<=4/\x.cs.length<=6/\x.fr.all isWord=true/\isWord x.tu=true /\ ∀c∈x.cs,chk c=0:=by
 unfold lchk at h
 split at h
 . cases h
 .
  split at h
  . cases h
  . split at h
    . cases h
    . rename_i h1 h2 h3
      refine⟨by omega,by omega,by omega,by simpa using h2,by simpa using h3,fun c hc=>?_⟩
      exact (firstBad_zero _).1 h (chk c) (List.mem_map.2 ⟨c,hc,rfl⟩)
theorem fbad_zero {p:Option (List UInt8)} {f:SFile} (h:fbad p f=0):isWord f.name=true/\f.b.length<=4000 /\ ∀q,p=some q->q<f.name:=by
 unfold fbad at h
 split at h
 . cases h
 .
  split at h
  . cases h
  .
   rename_i h1 h2
   refine⟨by simpa using h1,by omega,?_⟩
   intro q hq
   subst hq
   simp only at h
   split at h
   . assumption
   . cases h
theorem from_cons {p:Option (List UInt8)} {f:SFile} {r:List SFile}:fchkFrom p (f::r)=0 ↔ fbad p f=0/\fchkFrom (some f.name) r=0:=by
 rw[fchkFrom]
 split
 . rename_i h;simp[h]
 . rename_i h;simp[h]
theorem from_above:∀{l:List SFile} {q:List UInt8},fchkFrom (some q) l=0 -> ∀f∈l,q<f.name
 | [],_,_,f,hf=>by cases hf
 | g::r,q,h,f,hf=>by
  rw[from_cons] at h
  have h1:=(fbad_zero h.1).2.2 q rfl
  rw[List.mem_cons] at hf
  rcases hf with rfl | hf
  . exact h1
  . exact List.lt_trans h1 (from_above h.2 f hf)
theorem lt_ne {a b:List UInt8} (h:a<b):a≠b:=by
 rintro rfl
 exact List.lt_irrefl a h
theorem fileOf_cons (f:SFile) (r:List SFile) (n:List UInt8):fileOf (f::r) n=if f.name=n then f.b else fileOf r n:=by
 unfold fileOf
 by_cases h:f.name=n
 . simp[h]
 . rw[List.find?_cons_of_neg (by simp[h]),if_neg h]
theorem fileOf_none:∀{l:List SFile} {n:List UInt8},(∀f∈l,f.name≠n)->fileOf l n=[]
 | [],_,_=>rfl
 | f::r,n,h=>by
  rw[fileOf_cons,if_neg (h f (by simp)),fileOf_none (fun g hg=>h g (by simp[hg]))]
theorem not_lt_eq {a b:List UInt8} (h1:¬a<b) (h2:¬b=a):b<a:=by
 have h3:b<=a:=List.not_lt.1 h1
 by_cases h:b<a
 . exact h
 . exact absurd (List.le_antisymm h3 (List.not_lt.1 h)) h2
theorem fchk_zero {l:List SFile} (h:fchk l=0):l.length<=12/\fchkFrom none l=0:=by
 unfold fchk at h
 split at h
 . cases h
 . exact⟨by omega,h⟩
def whole (b:List UInt8):Prop:=ended (lines b)=b
theorem from_all:∀{l:List SFile} {p:Option (List UInt8)},fchkFrom p l=0 -> ∀f∈l,isWord f.name=true/\f.b.length<=4000
 | [],_,_,f,hf=>by cases hf
 | g::r,p,h,f,hf=>by
  rw[from_cons] at h
  rw[List.mem_cons] at hf
  rcases hf with rfl | hf
  . exact⟨(fbad_zero h.1).1,(fbad_zero h.1).2.1⟩
  . exact from_all h.2 f hf
def posOf:List SFile->List UInt8->Nat
 | [],_=>0
 | f::r,n=>if f.name<n then posOf r n+1 else 0
def thereOf (l:List SFile) (n:List UInt8):Bool:=match l[posOf l n]? with
 | some f=>decide (f.name=n)
 | none=>false
theorem pos_le:∀(l:List SFile) (n:List UInt8),posOf l n<=l.length
 | [],n=>Nat.le_refl _
 | f::r,n=>by
  unfold posOf
  split
  . have:=pos_le r n;simp;omega
  . exact Nat.zero_le _
theorem pos_iff:∀{l:List SFile} {p:Option (List UInt8)} {n:List UInt8} {h:Nat} {f:SFile},fchkFrom p l=0->l[h]? = some f->(f.name<n ↔ h<posOf l n)
 | [],p,n,h,f,_,e=>by simp at e
 | g::r,p,n,h,f,hr,e=>by
  obtain⟨h1,h2⟩:=from_cons.1 hr
  unfold posOf
  by_cases hg:g.name<n
  .
   rw[if_pos hg]
   cases h with
   | zero=>simp at e;subst e;simp[hg]
   | succ h=>
    have:=pos_iff (n:=n) h2 (h:=h) (f:=f) (by simpa using e)
    rw[this];omega
  .
   rw[if_neg hg]
   cases h with
   | zero=>simp at e;subst e;simp[hg]
   | succ h=>
    have hm:f∈r:=mGt (by simpa using e)
    have:=from_above h2 f hm
    constructor
    . intro hf;exact absurd (List.lt_trans this hf) hg
    . intro hf;omega
theorem there_some {l:List SFile} {n:List UInt8} {f:SFile} (h:l[posOf l n]? = some f):thereOf l n=decide (f.name=n):=by unfold thereOf;rw[h]
theorem there_none {l:List SFile} {n:List UInt8} (h:¬posOf l n<l.length):thereOf l n=false:=by unfold thereOf;rw[List.getElem?_eq_none (by omega)]
theorem there_get {l:List SFile} {n:List UInt8} (h:thereOf l n=true):∃f,l[posOf l n]? = some f/\f.name=n:=by
 unfold thereOf at h
 split at h
 . rename_i f e;exact⟨f,e,of_decide_eq_true h⟩
 . cases h
theorem there_cons {f:SFile} {r:List SFile} {n:List UInt8} (h:f.name<n):thereOf (f::r) n=thereOf r n:=by
 unfold thereOf
 rw[show posOf (f::r) n=posOf r n+1 by rw[posOf,if_pos h],List.getElem?_cons_succ]
theorem there_head {f:SFile} {r:List SFile} {n:List UInt8} (h:¬f.name<n):thereOf (f::r) n=decide (f.name=n):=by
 unfold thereOf
 rw[show posOf (f::r) n=0 by rw[posOf,if_neg h],List.getElem?_cons_zero]
theorem file_there:∀{l:List SFile} {p:Option (List UInt8)} {n:List UInt8} {f:SFile},fchkFrom p l=0->thereOf l n=true->l[posOf l n]? = some f->fileOf l n=f.b
 | [],p,n,f,_,_,e=>by simp at e
 | g::r,p,n,f,hr,ht,e=>by
  obtain⟨h1,h2⟩:=from_cons.1 hr
  rw[fileOf_cons]
  by_cases hg:g.name<n
  . rw[if_neg (lt_ne hg)]
    rw[there_cons hg] at ht
    rw[posOf,if_pos hg,List.getElem?_cons_succ] at e
    exact file_there h2 ht e
  . rw[there_head hg] at ht
    rw[posOf,if_neg hg,List.getElem?_cons_zero] at e
    injection e with e
    rw[if_pos (of_decide_eq_true ht),e]
theorem file_not:∀{l:List SFile} {p:Option (List UInt8)} {n:List UInt8},fchkFrom p l=0->thereOf l n=false->fileOf l n=[]
 | [],p,n,_,_=>rfl
 | g::r,p,n,hr,ht=>by
  obtain⟨h1,h2⟩:=from_cons.1 hr
  rw[fileOf_cons]
  by_cases hg:g.name<n
  . rw[if_neg (lt_ne hg)]
    rw[there_cons hg] at ht
    exact file_not h2 ht
  . rw[there_head hg] at ht
    have hne:=of_decide_eq_false ht
    rw[if_neg hne]
    have hlt:n<g.name:=not_lt_eq hg (fun e=>hne e.symm)
    exact fileOf_none (fun f hf=>Ne.symm (lt_ne (List.lt_trans hlt (from_above h2 f hf))))
end Go.Gs
namespace Go.Proofs.YtllgglolcgdehaaGreatDoor
open Go.RowKit Go.Gs
set_option linter.unusedVariables false
theorem boxr_of {w:World} {o:Obj}:Below w.heap.size w (w.alloc o):=(Below.refl _ w).alloc (Nat.le_refl _) o
theorem reads_le' {w:World} {ao:Option Addr} {n cap:Nat} {xs:List Value} (h:Reads w (.slice ao n cap) n xs):n<=9223372036854775807:=by
 obtain⟨_,c,e,h1,h2⟩:=h.shape
 unfold maxLen at h2
 omega
theorem str_eq2 (a b:List UInt8):((⟨a.toArray⟩:ByteArray).toList == (⟨b.toArray⟩:ByteArray).toList)=decide (a=b):=by
 by_cases h:a=b
 . subst h;simp
 . simp[h]
theorem less_eq2:∀(x y:List UInt8),Op.bytesLess x y=decide (x<y)
 | [],[]=>by simp[Op.bytesLess]
 | _::_,[]=>by simp[Op.bytesLess]
 | [],_::_=>by simp[Op.bytesLess]
 | a::x,b::y=>by
  rw[Op.bytesLess,less_eq2 x y]
  simp only[List.cons_lt_cons_iff]
  by_cases h1:a<b <;> by_cases h2:a=b <;> by_cases h3:x<y <;> simp[h1,h2,h3]
theorem box2_cells {w w':World} {a b:Value} {t:TypeId} (h:Below (w.alloc (.cells #[a,b] t)).heap.size (w.alloc (.cells #[a,b] t)) w'):w'.cell? ⟨w.heap.size,0,none⟩=some a/\w'.cell? ⟨w.heap.size,1,none⟩=some b:=by
 have hk:w'.heap[w.heap.size]? = some (.cells #[a,b] t (0,0)):=(h.block _ (by simp)).trans (heap_alloc_new w _)
 simp[World.cell?,hk]
def lastName:Option (List UInt8)->List SFile->Option (List UInt8)
 | q,[]=>q
 | _,g::a=>lastName (some g.name) a
theorem from_split:∀(a:List SFile) (q:Option (List UInt8)) (f:SFile) (r:List SFile),fchkFrom q a=0->fchkFrom q (a++f::r)=if fbad (lastName q a) f=0 then fchkFrom (some f.name) r else fbad (lastName q a) f
 | [],q,f,r,_=>rfl
 | g::a,q,f,r,h=>by
  rw[fchkFrom] at h
  split at h
  . rename_i h1
    rw[List.cons_append,fchkFrom,if_pos h1,from_split a _ f r h]
    rfl
  . rename_i h1;exact absurd h h1
theorem last_snoc:∀(a:List SFile) (q:Option (List UInt8)) (g:SFile),lastName q (a++[g])=some g.name
 | [],q,g=>rfl
 | x::a,q,g=>by rw[List.cons_append,lastName];exact last_snoc a _ g
theorem last_take {fs:List SFile} {k:Nat} {g:SFile} (h:fs[k]? = some g):lastName none (fs.take (k+1))=some g.name:=by
 rw[List.take_add_one,h]
 exact last_snoc _ _ _
theorem split_at {fs:List SFile} {k:Nat} {f:SFile} (h:fs[k]? = some f):fs=fs.take k++f::fs.drop (k+1):=by
 obtain⟨hk,e⟩:=gSm h
 rw[<- e,<- List.drop_eq_getElem_cons hk,List.take_append_drop]
theorem from_bad {fs:List SFile} {k:Nat} {f:SFile} (h:fs[k]? = some f) (h0:fchkFrom none (fs.take k)=0) (hb:fbad (lastName none (fs.take k)) f≠0):fchkFrom none fs=fbad (lastName none (fs.take k)) f:=by
 have e:=from_split (fs.take k) none f (fs.drop (k+1)) h0
 rw[<- split_at h,if_neg hb] at e
 exact e
theorem from_good {fs:List SFile} {k:Nat} {f:SFile} (h:fs[k]? = some f) (h0:fchkFrom none (fs.take k)=0) (hb:fbad (lastName none (fs.take k)) f=0):fchkFrom none (fs.take (k+1))=0:=by
 rw[List.take_add_one,h]
 have e:=from_split (fs.take k) none f [] h0
 rw[if_pos hb] at e
 exact e
theorem belowq {B:Nat} {a w:World} (h:Below B a w) (q:Nat):Below B a (w.drewN q):=⟨h.os,h.tape,h.output,h.size,h.block⟩
theorem fchk_few {fs:List SFile} (h:¬12<fs.length):fchk fs=fchkFrom none fs:=by unfold fchk;rw[if_neg h]
theorem ne_at2 {α:Type} {a b:List α} {k:Nat} {x y:α} (ha:a[k]? = some x) (hb:b[k]? = some y) (h:x≠y):a≠b:=by
 intro e
 rw[e,hb] at ha
 injection ha with ha
 exact h ha.symm
theorem take_eq2 {α:Type} {a b:List α} {k:Nat} {x:α} (h:a.take k=b.take k) (ha:a[k]? = some x) (hb:b[k]? = some x):a.take (k+1)=b.take (k+1):=by
 rw[List.take_add_one,List.take_add_one,h,ha,hb]
theorem reads_byte {w:World} {ao:Option Addr} {n cap:Nat} {bs:List UInt8} (h:Reads w (.slice ao n cap) n (bs.map U)) {k:Nat} {c:UInt8} (hk:bs[k]? = some c) :
 ∃b off,ao=some ⟨b,off,none⟩/\w.cell? ⟨b,off+k,none⟩=some (.int .u8 (c.toNat:Int)):=by
 obtain⟨h1,ao',cap',e,_,_,h5⟩:=h
 injection e with e1 e2 e3
 subst e1
 obtain⟨hkl,_⟩:=gSm hk
 rw[List.length_map] at h1
 obtain⟨b,off,hao,hc⟩:=h5 (by omega)
 exact⟨b,off,hao,hc k (U c) (by rw[List.getElem?_map,hk];rfl)⟩
theorem addF {b off j:Nat}:(⟨b,off,none⟩:Addr).add j=⟨b,off+j,none⟩:=by unfold Addr.add;split <;> simp_all
end Go.Proofs.YtllgglolcgdehaaGreatDoor
namespace Go.Gs
open Go.RowKit
set_option linter.unusedVariables false
def allLines (fs:List SFile) (fr:List (List UInt8)):List (List UInt8):=(fr.map fun s=>lines (fileOf fs s)).flatten
end Go.Gs
namespace Go.Proofs.YtllgglolcgdehaaGreatDoor
open Go.RowKit Go.Gs
set_option linter.unusedVariables false
theorem each_is (c:Cmd) (w:World) :
 Calls Tryz.prog 142 #[c.v] w fun e w'=>e=.returned (.bool (isEach c.kind))/\Below w.heap.size w w':=by
 obtain⟨k,word,n⟩:=c
 unfold Cmd.v isEach
 simp only
 by_cases h1:1<=k
 .
  by_cases h2:k<=5
  . rw[decide_eq_true (show 1<=k/\k<=5 from ⟨h1,h2⟩)]
    go_enter Tryz.func142,Tryz.ntmps142
    go_wp2
    go_ret
    exact⟨by first | rfl | simp | (simp;omega),box_of⟩
  . rw[decide_eq_false (show ¬(1<=k/\k<=5) from fun h=>h2 h.2)]
    go_enter Tryz.func142,Tryz.ntmps142
    go_wp2
    go_ret
    exact⟨by first | rfl | simp | (simp;omega),box_of⟩
 .
  rw[decide_eq_false (show ¬(1<=k/\k<=5) from fun h=>h1 h.1)]
  go_enter Tryz.func142,Tryz.ntmps142
  go_wp2
  go_ret
  exact⟨by first | rfl | simp | (simp;omega),box_of⟩
theorem eqbyte_is (au av:Option Addr) (cu cv:Nat) (a b:List UInt8) (w:World) (ha:Reads w (.slice au a.length cu) a.length (a.map U)) (hb:Reads w (.slice av b.length cv) b.length (b.map U)) :
 Calls Tryz.prog 30 #[.slice au a.length cu,.slice av b.length cv] w fun e w'=>e=.returned (.bool (decide (a=b)))/\Below w.heap.size w w':=by
 have m2:=reads_le' ha
 have m4:=reads_le' hb
 have HA:Hid (Reads w (.slice au a.length cu) a.length (a.map U)):=ha
 have HB:Hid (Reads w (.slice av b.length cv) b.length (b.map U)):=hb
 obtain⟨NA,hNA⟩:∃N,N=a.length:=⟨_,rfl⟩
 obtain⟨NB,hNB⟩:∃N,N=b.length:=⟨_,rfl⟩
 have HNA:Hid (NA=a.length):=hNA
 have HNB:Hid (NB=b.length):=hNB
 have hA1:NA<=9223372036854775807:=by omega
 have hB1:NB<=9223372036854775807:=by omega
 rw[<- hNA,<- hNB]
 rw[<- hNA] at HA
 rw[<- hNB] at HB
 clear ha hb m2 m4 hNA hNB
 by_cases hne:NA=NB
 .
  subst hne
  go_enter Tryz.func30,Tryz.ntmps30
  go_wp2_with fail
  go_loopw [13] (fun i wr=>∃k:Nat,k<=NA/\i=.int .i64 k/\Hid (Below w.heap.size w wr)/\Hid (a.take k=b.take k)) (fun i _=>NA-(intOf i).toNat)
  case atStart=>exact⟨0,Nat.zero_le _,rfl,Below.refl _ _,(show _=_ by simp)⟩
  case round=>
   obtain⟨k,hk,rfl,hbel,hall⟩:=hrel
   by_cases hlt:k<NA
   .
    obtain⟨x,hx⟩:∃x,a[k]? = some x:=⟨_,gEl (by have:=HNA.out;omega)⟩
    obtain⟨y,hy⟩:∃y,b[k]? = some y:=⟨_,gEl (by have:=HNB.out;omega)⟩
    have HX:Hid (a[k]? = some x):=hx
    have HY:Hid (b[k]? = some y):=hy
    obtain⟨b1,o1,rfl,hc1⟩:=reads_byte (Reads.below HA.out hbel.out) hx
    obtain⟨b2,o2,rfl,hc2⟩:=reads_byte (Reads.below HB.out hbel.out) hy
    by_cases hxy:x=y
    .
     subst hxy
     have HE:Hid (a.take (k+1)=b.take (k+1)):=take_eq2 hall.out hx hy
     generalize (x.toNat:Int)=xi at *
     clear hx hy hall
     go_wp2_with fail
     go_region
     all_goals go_wp2_with fail
     all_goals go_roundw
     case rel=>exact⟨k+1,by omega,by go_num,hbel.out.drew,HE⟩
     case measure=>simp[intOf];omega
    .
     have HE:Hid (a≠b):=ne_at2 hx hy hxy
     have hxi:¬(x.toNat:Int)=(y.toNat:Int):=fun h=>hxy (UInt8.toNat_inj.1 (by omega))
     generalize (x.toNat:Int)=xi at *
     generalize (y.toNat:Int)=yi at *
     clear hx hy hall hxy
     go_wp2_with fail
     go_region
     all_goals go_wp2_with fail
     all_goals go_ret
     all_goals exact⟨by rw[decide_eq_false HE.out];rfl,hbel.out.drew⟩
   .
    have HE:Hid (a=b):=(show _=_ by
     have h:=hall.out
     rw[List.take_of_length_le (by have:=HNA.out;omega),List.take_of_length_le (by have:=HNB.out;omega)] at h
     exact h)
    clear hall
    go_wp2_with fail
    go_ret
    exact⟨by rw[decide_eq_true HE.out];rfl,hbel.out⟩
 .
  have HE:Hid (a≠b):=(show a≠b from fun e=>hne (by rw[HNA.out,HNB.out,e]))
  have hq:¬(NA:Int)=NB:=by omega
  go_enter Tryz.func30,Tryz.ntmps30
  go_wp2_with fail
  go_ret
  exact⟨by rw[decide_eq_false HE.out];rfl,Below.refl _ _⟩
end Go.Proofs.YtllgglolcgdehaaGreatDoor
