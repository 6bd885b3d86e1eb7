/- What the reference's Made does to lines, and more. -/
import Derived.Test.YtmejdflmcikkdaaGreatDoorVAb
import Derived.Test.YtmejdflmcikkdaaGreatDoorVa26
import Derived.Test.YtmejdflmcikkdaaGreatDoorVa12
set_option linter.all false
set_option maxRecDepth 100000
set_option maxHeartbeats 64000000
namespace Go.Proofs.YtmejdflmcikkdaaGreatDoor
open Go.RowKit Go.Gs Tryz
variable {l:qU}{sx tx:ByteArray}{i:Nat}
theorem aH3(v:Value)(ls:qL)(w:World)(B:Nat)(hB:B<=w.heap.size)(Ab:w.ownsRow B 9 1 v ls.length (ls.map S))(hl:ls.length<=250000000):
 Calls prog 88 #[v] w fun e w'=>e=.returned (.tuple #[])/\w'.ownsRow B 9 1 v (P3 ls).length ((P3 ls).map S)/\Below B w w':=by
 rcases Z6 Ab with⟨rfl,rfl⟩|⟨g,cap,rfl,hBg,hgw,hcap,hcm,hH⟩
 . refine (Tryz.sort_Strings_none none 0 w).mono ?_;rintro e w'⟨rfl,rfl⟩;exact⟨rfl,by simpa[P3]using World.ownsRow_nil w' B 9 1,Below.refl _ _⟩
 .
  refine (Tryz.sort_Strings g 0 cap ls w hH hgw qO).mono ?_;rintro e w'⟨rfl,nn,os,rfl⟩;have hlen:(P3 ls).length=ls.length:=(aa6 ls).length_eq;refine⟨rfl,?_,?_⟩
  . rw[hlen];exact aM1 Ab rfl hlen
  . exact (Below.refl B w).grown (grownBy_sorted _) hB (fun j hj=>by cases hj;exact hBg)
theorem bL8(al:Option Addr)(cl:Nat)(word:qU)(n:Int)(ls:qL)(w:World)(hl:Reads w (.slice al ls.length cl) ls.length (ls.map S))(hLm:ls.length<=225000000)(hsz:∀s∈ls,s.length<=225000000)(f:Nat->Option qU)(hf:∀i s,ls[i]?=some s->f i=some s):
 Calls prog 55 #[.agg #[.int .i64 6,.string ⟨word.toArray⟩,.int .i64 n],.slice al ls.length cl] w fun e w'=>∃r,e=.returned r/\Reads w' r (P3 (M f ls.length)).length ((P3 (M f ls.length)).map S)/\Bq w w':=by
 obtain⟨i0,hi,hz0,hz1,hz2⟩:=info_parts J9;have Hl:Hid _:=hl;obtain⟨-,al',cl',e4,-,-,hl5⟩:=hl;simp only[xT,true_and]at e4;obtain⟨rfl,rfl⟩:=e4;generalize hL:ls.length=L at *;go_enter func55,ntmps55;go_wp2_with fail
 go_loopw [5,16] (fun v5 i wr=>∃k:Nat,k<=L/\i=.int .i64 k/\wr.ownsRow (w.heap.size+1) 9 1 v5 (M f k).length ((M f k).map S)/\Below (w.heap.size+1) (w.alloc (.cells #[.int .i64 6,.string ⟨word.toArray⟩,.int .i64 n] 54)) wr)
  (fun _ i _=>L-(intOf i).toNat)
 case atStart=>exact⟨0,qM _,rfl,by rw[ag1];exact World.ownsRow_nil _ _ _ _,Below.refl _ _⟩
 case round=>
  obtain⟨k,hk,rfl,Ab,Aa⟩:=hrel;obtain⟨bx0,bx1,bx2⟩:=F9 Aa;have hMl:=as6 f k;by_cases hlt:k<L
  .
   obtain⟨b,off,rfl,hc⟩:=hl5 qO;have Ai:wr.cell? ⟨b,off+k,none⟩=some (.string ⟨(ls[k]'(by omega)).toArray⟩):=((l8 Aa).cell (bLt w _ (hc k (S (ls[k]'(by omega))) (by simp[hL,hlt])))).trans (hc k _ (by simp[S,hL,hlt]));have hfk:=hf k (ls[k]'(by omega)) (gEl _);obtain⟨sx,hsx,Ac⟩:∃sx:ByteArray,Hid (Value.string sx=S (ls[k]'(by omega)))/\wr.cell? ⟨b,off+k,none⟩=some (.string sx):=⟨⟨(ls[k]'(by omega)).toArray⟩,rfl,Ai⟩;clear hc hl5 Ai;have Hf:Hid _:=ag2 hfk;clear hfk hf;go_wp2_with ((at_builtin;refine xB _ rfl (.tmp 125) (.tmp 127) 110 rfl (w.heap.size+1) 9 i0 (.string ⟨#[]⟩) 1 16 underlying110 hi hz0 hz1 hz2 rfl (by decide) _ _ _ rfl (Ab.alloc _) ⟨wr.heap.size,0,none⟩ 1 1 [.string sx] rfl rfl ?c1 ?c2 ?c3 ?c4 ?c5 ?_))
   case c1=>
    intro j u hj
    match j,hj with
    | 0,hj=>simp at hj;subst hj;simp[Addr.add]
   case c2=>intro u hu;simp at hu;subst hu;rfl
   case c3=>unfold maxLen;omega
   case c4=>omega
   case c5=>have:=Aa.size;simp at this;simp;omega
   . intro v' w1 Ag Am _;have R:Hid _:=Q8 Ab Aa hsx.out Ag Am;clear Ag Am Ab Aa Ac bx0 bx1 bx2;go_wp2_with fail;go_roundw
     case rel=>exact⟨k+1,qO,by go_num,by rw[Hf.o];exact R.o.1,R.o.2⟩
     case measure=>simp[intOf];omega
  . clear hl5;have hkn:k=L:=qO;subst hkn;have HW:=qH Ab;have HBl:=qH Aa;clear Aa Ab;go_wp2_with fail;refine (aH3 _ (M f k) wr (w.heap.size+1) (by have:=HBl.o.size;simpa using this) HW.o qO).mono ?_;rintro e w2⟨rfl,Aq,Ud⟩;have HR:Hid _:=Reads.of_owns Aq;have HB2:Hid (Below (w.heap.size+1) (w.alloc _) w2):=HBl.o.trans Ud;have HB:Hid _:=l8 HB2.o;obtain⟨bx0,bx1,bx2⟩:=F9 HB2.o;clear Aq Ud;go_wp2_with fail;go_ret;exact⟨_,rfl,HR.o,HB.o⟩
theorem bL9(al:Option Addr)(cl:Nat)(word:qU)(n:Int)(ls:qL)(w:World)(hl:Reads w (.slice al ls.length cl) ls.length (ls.map S))(hLm:ls.length<=225000000)(hsz:∀s∈ls,s.length<=225000000)(f:Nat->Option qU)(hf:∀i s,ls[i]?=some s->f i=if i=0\/ls[i-1]? ≠ some s then some s else none):
 Calls prog 55 #[.agg #[.int .i64 7,.string ⟨word.toArray⟩,.int .i64 n],.slice al ls.length cl] w fun e w'=>∃r,e=.returned r/\w'.ownsRow (w.heap.size+1) 9 1 r (M f ls.length).length ((M f ls.length).map S)/\Bq w w':=by
 obtain⟨i0,hi,hz0,hz1,hz2⟩:=info_parts J9;have Hl:Hid _:=hl;obtain⟨-,al',cl',e4,-,-,hl5⟩:=hl;simp only[xT,true_and]at e4;obtain⟨rfl,rfl⟩:=e4;generalize hL:ls.length=L at *;go_enter func55,ntmps55;go_wp2_with fail
 go_loopw [5,16] (fun v5 i wr=>∃k:Nat,k<=L/\i=.int .i64 k/\wr.ownsRow (w.heap.size+1) 9 1 v5 (M f k).length ((M f k).map S)/\Below (w.heap.size+1) (w.alloc (.cells #[.int .i64 7,.string ⟨word.toArray⟩,.int .i64 n] 54)) wr)
  (fun _ i _=>L-(intOf i).toNat)
 case atStart=>exact⟨0,qM _,rfl,by rw[ag1];exact World.ownsRow_nil _ _ _ _,Below.refl _ _⟩
 case round=>
  obtain⟨k,hk,rfl,Ab,Aa⟩:=hrel;obtain⟨bx0,bx1,bx2⟩:=F9 Aa;have hMl:=as6 f k;by_cases hlt:k<L
  .
   obtain⟨b,off,rfl,hc⟩:=hl5 qO;have Ai:wr.cell? ⟨b,off+k,none⟩=some (.string ⟨(ls[k]'(by omega)).toArray⟩):=((l8 Aa).cell (bLt w _ (hc k (S (ls[k]'(by omega))) (by simp[hL,hlt])))).trans (hc k _ (by simp[S,hL,hlt]));have hfk:=hf k (ls[k]'(by omega)) (gEl _);have hkm:k-1<ls.length:=qO;have Ia:wr.cell? ⟨b,off+(k-1),none⟩=some (.string ⟨(ls[k-1]'hkm).toArray⟩):=((l8 Aa).cell (bLt w _ (hc (k-1) (S (ls[k-1]'hkm)) (by simp[hkm])))).trans (hc (k-1) _ (by simp[S,hkm]));have Je:ls[k-1]?=some (ls[k-1]'hkm):=gEl hkm;obtain⟨sx,hsx,Ac⟩:∃sx:ByteArray,Hid (Value.string sx=S (ls[k]'(by omega)))/\wr.cell? ⟨b,off+k,none⟩=some (.string sx):=⟨⟨(ls[k]'(by omega)).toArray⟩,rfl,Ai⟩;clear hc hl5 Ai;by_cases hk0:k=0
   .
    rw[qF (.inl hk0)]at hfk;have Hf:Hid _:=ag2 hfk;clear hfk hf Ia Je;subst hk0;have Of:wr.cell? ⟨b,off,none⟩=some (.string sx):=by simpa using Ac
    go_wp2_with ((at_builtin;refine xB _ rfl (.tmp 125) (.tmp 127) 110 rfl (w.heap.size+1) 9 i0 (.string ⟨#[]⟩) 1 16 underlying110 hi hz0 hz1 hz2 rfl (by decide) _ _ _ rfl (Ab.alloc _) ⟨wr.heap.size,0,none⟩ 1 1 [.string sx] rfl rfl ?c1 ?c2 ?c3 ?c4 ?c5 ?_))
    case c1=>
     intro j u hj
     match j,hj with
     | 0,hj=>simp at hj;subst hj;simp[Addr.add]
    case c2=>intro u hu;simp at hu;subst hu;rfl
    case c3=>unfold maxLen;omega
    case c4=>omega
    case c5=>have:=Aa.size;simp at this;simp;omega
    . intro v' w1 Ag Am _;have R:Hid _:=Q8 Ab Aa hsx.out Ag Am;clear Ag Am Ab Aa Ac Of bx0 bx1 bx2;go_wp2_with fail;go_roundw
      case rel=>exact⟨0+1,qO,by go_num,by rw[Hf.o];exact R.o.1,R.o.2⟩
      case measure=>simp[intOf];omega
   .
    obtain⟨j,hj⟩:∃j,k=j+1:=⟨k-1,qO⟩;have hki:¬((k:Int)=0):=qO;have hkj:(k:Int)-1=(j:Int):=qO;have hjL:(j:Int)<L:=qO;have hjk:k-1=j:=qO;obtain⟨px,hpx,Vs⟩:∃px:ByteArray,Hid (Value.string px=S (ls[k-1]'hkm))/\wr.cell? ⟨b,off+(k-1),none⟩=some (.string px):=⟨⟨(ls[k-1]'hkm).toArray⟩,rfl,Ia⟩;rw[hjk]at Vs;have HJ:Hid _:=hj;clear Ia hjk hj;by_cases heq:ls[k-1]'hkm=ls[k]'(by omega)
    . rw[qB (by rw[Je,heq];simp[hk0])]at hfk;have Hf:Hid _:=aC3 hfk;obtain rfl:px=sx:=by have h1:=hpx.out;rw[heq,<- hsx.out]at h1;injection h1
      clear hfk hf Je heq hpx;go_wp2_with fail;go_roundw
      case rel=>exact⟨k+1,qO,by go_num,by rw[Hf.o];exact Ab,Aa⟩
      case measure=>simp[intOf];omega
    .
     rw[qF (.inr (by rw[Je];simpa using heq))]at hfk;have Hf:Hid _:=ag2 hfk;have hne:¬(px=sx):=by intro h;subst h;have h1:=hpx.out;rw[hsx.out]at h1;unfold S at h1;injection h1 with h1;injection h1 with h1;exact heq (List.toArray_inj h1).symm
     have hne':(px.toList==sx.toList)=false:=qg.2 (fun h=>hne (by
      rw[Lib.toList_data,Lib.toList_data]at h
      cases px;cases sx
      simpa using congrArg List.toArray h))
     have hki':((k:Int)==0)=false:=qg.2 hki;clear hfk hf Je heq hpx hne;go_wp2_with ((at_builtin;refine xB _ rfl (.tmp 125) (.tmp 127) 110 rfl (w.heap.size+1) 9 i0 (.string ⟨#[]⟩) 1 16 underlying110 hi hz0 hz1 hz2 rfl (by decide) _ _ _ rfl (Ab.alloc _) ⟨wr.heap.size,0,none⟩ 1 1 [.string sx] rfl rfl ?c1 ?c2 ?c3 ?c4 ?c5 ?_))
     case c1=>
      intro j u hj
      match j,hj with
      | 0,hj=>simp at hj;subst hj;simp[Addr.add]
     case c2=>intro u hu;simp at hu;subst hu;rfl
     case c3=>unfold maxLen;omega
     case c4=>omega
     case c5=>have:=Aa.size;simp at this;simp;omega
     . intro v' w1 Ag Am _;have R:Hid _:=Q8 Ab Aa hsx.out Ag Am;clear Ag Am Ab Aa Ac bx0 bx1 bx2;go_wp2_with fail;go_roundw
       case rel=>exact⟨k+1,qO,by go_num,by rw[Hf.o];exact R.o.1,R.o.2⟩
       case measure=>simp[intOf];omega
  . clear hl5;have hkn:k=L:=qO;subst hkn;have HB:Hid _:=l8 Aa;clear Aa;go_wp2_with fail;go_ret;exact⟨_,rfl,Ab,HB.o⟩
theorem by5(al:Option Addr)(cl:Nat)(word:List UInt8)(n:Int)(ls:List (List UInt8))(w:World)(hl:Reads w (.slice al ls.length cl) ls.length (ls.map S))(hLm:ls.length<=225000000)(hsz:∀s∈ls,s.length<=225000000)(f:Nat->Option (List UInt8))(hf:∀i s,ls[i]? = some s->f i=none)(htab:Lib.TabIs prog w "internal/strconv.uint64pow10" .u64 Lib.pow10Tab) :
 Calls prog 55 #[.agg #[.int .i64 8,.string ⟨word.toArray⟩,.int .i64 n],.slice al ls.length cl] w fun e w'=>∃r,e=.returned r/\Reads w' r 1 [S (Lib.itoa (ls.length:Int))]/\Bq w w':=by
 have hI:=fun(W:World)(h:Bq w W)=>Tryz.strconv_Itoa ls.length qO qO W (tab_below htab h);obtain⟨t,ht⟩:=qE (Lib.itoa (ls.length:Int));rw[<- ht]at hI ⊢;clear ht htab;obtain⟨i0,hi,hz0,hz1,hz2⟩:=info_parts J9;have Hl:Hid _:=hl;obtain⟨-,al',cl',e4,-,-,hl5⟩:=hl;simp only[xT,true_and]at e4;obtain⟨rfl,rfl⟩:=e4;generalize hL:ls.length=L at *;have HI:Hid _:=hI;clear hI;go_enter func55,ntmps55;go_wp2_with fail
 go_loopw [5,16] (fun v5 i wr=>∃k:Nat,k<=L/\i=.int .i64 k/\wr.ownsRow (w.heap.size+1) 9 1 v5 (M f k).length ((M f k).map S)/\Below (w.heap.size+1) (w.alloc (.cells #[.int .i64 8,.string ⟨word.toArray⟩,.int .i64 n] 54)) wr)
  (fun _ i _=>L-(intOf i).toNat)
 case atStart=>exact⟨0,qM _,rfl,by rw[ag1];exact World.ownsRow_nil _ _ _ _,Below.refl _ _⟩
 case round=>
  obtain⟨k,hk,rfl,Ab,Aa⟩:=hrel;obtain⟨bx0,bx1,bx2⟩:=F9 Aa;have hMl:=as6 f k;by_cases hlt:k<L
  . obtain⟨b,off,rfl,hc⟩:=hl5 qO;have Ai:wr.cell? ⟨b,off+k,none⟩=some (.string ⟨(ls[k]'(by omega)).toArray⟩):=((l8 Aa).cell (bLt w _ (hc k (S (ls[k]'(by omega))) (by simp[hL,hlt])))).trans (hc k _ (by simp[S,hL,hlt]));have hfk:=hf k (ls[k]'(by omega)) (gEl _);obtain⟨sx,hsx,Ac⟩:∃sx:ByteArray,Hid (Value.string sx=S (ls[k]'(by omega)))/\wr.cell? ⟨b,off+k,none⟩=some (.string sx):=⟨⟨(ls[k]'(by omega)).toArray⟩,rfl,Ai⟩;clear hc hl5 Ai;have Hf:Hid _:=aC3 hfk;clear hfk hf;go_wp2_with fail;go_roundw
    case rel=>exact⟨k+1,qO,by go_num,by rw[Hf.o];exact Ab,Aa⟩
    case measure=>simp[intOf];omega
  . clear hl5;have hkn:k=L:=qO;subst hkn;have HB:Hid _:=l8 Aa;clear Aa Ab;go_wp2_with fail;refine (HI.o _ HB.o).mono ?_;rintro e w2⟨rfl,q,os,hw2⟩;have HB2:Hid (Bq w w2):=by rw[hw2];exact HB.o.trans ((af1 (w:=wr) q os (qA _)).mono HB.o.size)
    clear hw2;go_wp2_with fail;go_ret;exact⟨_,rfl,by simpa[S]using Y9 w2 #[S t] 9 (0,0) 1 rfl qO,HB2.o.trans (((Below.refl _ w2).alloc (qA _) _).mono HB2.o.size)⟩
theorem az6(l:qU)(sx:ByteArray)(hsx:Value.string sx=S l)(m:Int)(w:World)(hm:w.cell? ⟨0,0,none⟩=some (.int .i64 m))(hle:l.length<=225000000)(N:Nat)(hN:(Lib.split l [32]).length=N):
 Calls prog 87 #[.string sx,.string ⟨#[32]⟩] w fun e w'=>
  e=.returned (.slice (some ⟨w.heap.size,0,none⟩) N N)/\Hid (∀j p,(Lib.split l [32])[j]?=some p->w'.cell? ⟨w.heap.size,j,none⟩=some (.string ⟨p.toArray⟩))/\Hid (Bq w w'):=by
 have hd:=ae7 hsx;have hz:=ae8 hsx;have hlen:Lib.countB sx ⟨#[32]⟩+1=N:=by have h1:=Lib.splitB_all ⟨#[32]⟩ (by decide) 0 _ sx rfl;have h2:=congrArg List.length (Lib.splitB_data ⟨#[32]⟩ 0 (Lib.countB sx ⟨#[32]⟩) sx);rw[qS,h1,hd]at h2;rw[<- hN,h2];show _=(Lib.splitK [32] 0 (Lib.count l [32]) l).length;unfold Lib.countB;rw[hd]
 have hp:(Lib.splitB ⟨#[32]⟩ 0 (Lib.countB sx ⟨#[32]⟩) sx).map (·.data.toList)=Lib.split l [32]:=by rw[Lib.splitB_data,hd];unfold Lib.countB Lib.split;rw[hd]
 refine (Tryz.strings_Split sx ⟨#[32]⟩ m w qO hm (by decide)).mono ?_;rintro e w'⟨rfl,rfl⟩;rw[hlen,aU2,hp];refine⟨rfl,?_,(Below.refl _ w).alloc (qA _) _⟩;intro j p hj;rw[qY _ _ _ _ _ _ (qJ w _)];simp[hj,S]
theorem by6(al:Option Addr)(cl:Nat)(word:qU)(n:Int)(ls:qL)(w:World)(hl:Reads w (.slice al ls.length cl) ls.length (ls.map S))(hLm:ls.length<=225000000)(hsz:∀s∈ls,s.length<=225000000)(m:Int)(hm:w.cell? ⟨0,0,none⟩=some (.int .i64 m))(hn1:1<=n)(hn2:n<=1000)(f:Nat->Option qU)(hf:∀i s,ls[i]?=some s->f i=some (H6 n s)):
 Calls prog 55 #[.agg #[.int .i64 4,.string ⟨word.toArray⟩,.int .i64 n],.slice al ls.length cl] w fun e w'=>∃r,e=.returned r/\w'.ownsRow (w.heap.size+1) 9 1 r (M f ls.length).length ((M f ls.length).map S)/\Bq w w':=by
 obtain⟨i0,hi,hz0,hz1,hz2⟩:=info_parts J9;have Hl:Hid _:=hl;obtain⟨-,al',cl',e4,-,-,hl5⟩:=hl;simp only[xT,true_and]at e4;obtain⟨rfl,rfl⟩:=e4;generalize hL:ls.length=L at *;have HM:Hid _:=hm;have hmb:=bLt w _ hm;clear hm;go_enter func55,ntmps55;go_wp2_with fail
 go_loopw [5,16] (fun v5 i wr=>∃k:Nat,k<=L/\i=.int .i64 k/\wr.ownsRow (w.heap.size+1) 9 1 v5 (M f k).length ((M f k).map S)/\Below (w.heap.size+1) (w.alloc (.cells #[.int .i64 4,.string ⟨word.toArray⟩,.int .i64 n] 54)) wr)
  (fun _ i _=>L-(intOf i).toNat)
 case atStart=>exact⟨0,qM _,rfl,by rw[ag1];exact World.ownsRow_nil _ _ _ _,Below.refl _ _⟩
 case round=>
  obtain⟨k,hk,rfl,Ab,Aa⟩:=hrel;obtain⟨bx0,bx1,bx2⟩:=F9 Aa;have hMl:=as6 f k;by_cases hlt:k<L
  .
   obtain⟨b,off,rfl,hc⟩:=hl5 qO;have Ai:wr.cell? ⟨b,off+k,none⟩=some (.string ⟨(ls[k]'(by omega)).toArray⟩):=((l8 Aa).cell (bLt w _ (hc k (S (ls[k]'(by omega))) (by simp[hL,hlt])))).trans (hc k _ (by simp[S,hL,hlt]));have hfk:=hf k (ls[k]'(by omega)) (gEl _);have hsk:(ls[k]'(by omega)).length<=225000000:=hsz _ (zZ _);have Hf:Hid _:=ag2 hfk;generalize hlk:ls[k]'(by omega)=l at *;obtain⟨sx,hsx,Ac⟩:∃sx:ByteArray,Hid (Value.string sx=S l)/\wr.cell? ⟨b,off+k,none⟩=some (.string sx):=⟨⟨l.toArray⟩,rfl,Ai⟩;clear hc hl5 Ai hfk hf hlk;obtain⟨N,hN⟩:∃N,(Lib.split l [32]).length=N:=⟨_,rfl⟩;have HF1:=aM9 n l;have HF2:=aN0 n l;have hN4:N<=225000001:=by have h1:=aD2 l;have h2:=count_le l;omega
   have hmr:wr.cell? ⟨0,0,none⟩=some (.int .i64 m):=((l8 Aa).cell hmb).trans HM.o;have HMR:Hid _:=hmr;have HN:Hid _:=hN;by_cases hnN:n<=N
   .
    obtain⟨p,hp⟩:∃p,(Lib.split l [32])[(n-1).toNat]?=some p:=⟨_,gEl qO⟩;have HE:Hid (H6 n l=p):=HF1 p hn1 hp;have Hp:Hid _:=hp;clear HF1 HF2 hp hN hmr;go_wp2_with fail;refine (az6 l sx hsx.out m wr HMR.o hsk N HN.o).mono ?_;rintro e w7⟨rfl,hpc,hb7⟩;have Eb:=A5 Ab hb7.out;have Es:=Aa.trans (hb7.out.mono (by have:=Aa.size;simpa using this));obtain⟨bx0',bx1',bx2'⟩:=F9 Es;have hv:=hpc.out _ _ Hp.o;obtain⟨i,hi7⟩:∃i:Nat,n=(i:Int)+1:=⟨(n-1).toNat,qO⟩;have hin:(n-1).toNat=i:=qO;rw[hin]at hv;obtain⟨nx,hnx,hv'⟩:∃nx:ByteArray,Hid (Value.string nx=S (H6 n l))/\w7.cell? ⟨wr.heap.size,i,none⟩=some (.string nx):=⟨⟨p.toArray⟩,(show _=_ by rw[HE.o];rfl),hv⟩;have hiN:(i:Int)<N:=qO;clear hv hin HMR HN Hp HE hpc hb7 Ab Aa Ac bx0 bx1 bx2;have hni:n-1=(i:Int):=qO;clear hi7;go_wp2_with ((at_builtin;refine xB _ rfl (.tmp 125) (.tmp 127) 110 rfl (w.heap.size+1) 9 i0 (.string ⟨#[]⟩) 1 16 underlying110 hi hz0 hz1 hz2 rfl (by decide) _ _ _ rfl (Eb.alloc _) ⟨w7.heap.size,0,none⟩ 1 1 [.string nx] rfl rfl ?c1 ?c2 ?c3 ?c4 ?c5 ?_))
    case c1=>
     intro j u hj
     match j,hj with
     | 0,hj=>simp at hj;subst hj;simp[Addr.add]
    case c2=>intro u hu;simp at hu;subst hu;rfl
    case c3=>unfold maxLen;omega
    case c4=>omega
    case c5=>have:=Es.size;simp at this;simp;omega
    . intro v' w1 Ag Am _;have R:Hid _:=Q8 Eb Es hnx.out Ag Am;clear Ag Am Eb Es;go_wp2_with fail;go_roundw
      case rel=>exact⟨k+1,qO,by go_num,by rw[Hf.o];exact R.o.1,R.o.2⟩
      case measure=>simp[intOf];omega
   .
    have HE:Hid (H6 n l=[]):=HF2 qO;clear HF1 HF2 hN hmr;go_wp2_with fail;refine (az6 l sx hsx.out m wr HMR.o hsk N HN.o).mono ?_;rintro e w7⟨rfl,hpc,hb7⟩;have Eb:=A5 Ab hb7.out;have Es:=Aa.trans (hb7.out.mono (by have:=Aa.size;simpa using this));obtain⟨bx0',bx1',bx2'⟩:=F9 Es;obtain⟨nx,hnx,hnxe⟩:∃nx:ByteArray,Hid (Value.string nx=S (H6 n l))/\nx=⟨#[]⟩:=⟨⟨#[]⟩,(show _=_ by rw[HE.o];rfl),rfl⟩;subst hnxe;clear HMR HN HE hpc hb7 Ab Aa Ac bx0 bx1 bx2;go_wp2_with ((at_builtin;refine xB _ rfl (.tmp 125) (.tmp 127) 110 rfl (w.heap.size+1) 9 i0 (.string ⟨#[]⟩) 1 16 underlying110 hi hz0 hz1 hz2 rfl (by decide) _ _ _ rfl (Eb.alloc _) ⟨w7.heap.size,0,none⟩ 1 1 [.string ⟨#[]⟩] rfl rfl ?c1 ?c2 ?c3 ?c4 ?c5 ?_))
    case c1=>
     intro j u hj
     match j,hj with
     | 0,hj=>simp at hj;subst hj;simp[Addr.add]
    case c2=>intro u hu;simp at hu;subst hu;rfl
    case c3=>unfold maxLen;omega
    case c4=>omega
    case c5=>have:=Es.size;simp at this;simp;omega
    . intro v' w1 Ag Am _;have R:Hid _:=Q8 Eb Es hnx.out Ag Am;clear Ag Am Eb Es;go_wp2_with fail;go_roundw
      case rel=>exact⟨k+1,qO,by go_num,by rw[Hf.o];exact R.o.1,R.o.2⟩
      case measure=>simp[intOf];omega
  . clear hl5;have hkn:k=L:=qO;subst hkn;have HB:Hid _:=l8 Aa;clear Aa;go_wp2_with fail;go_ret;exact⟨_,rfl,Ab,HB.o⟩
theorem bM0(l:qU)(j:Nat)(hj:j<l.length):(l.drop j).reverse=(l.drop (j+1)).reverse++[l[j]]:=by rw[qt hj,List.reverse_cons]
theorem bM1(hsx:Value.string sx=S l)(htx:tx.data.toList=(l.drop (i+1)).reverse)(hi:i<l.length):(tx++sx.extract i (i+1)).data.toList=(l.drop i).reverse:=by rw[bM0 l i hi,<- htx,ByteArray.data_append,Array.toList_append,Lib.extract_data,ae7 hsx];congr 1;rw[qt hi,show i+1-i=1 by omega];rfl
theorem bM2(al:Option Addr)(cl:Nat)(word:qU)(n:Int)(ls:qL)(w:World)(hl:Reads w (.slice al ls.length cl) ls.length (ls.map S))(hLm:ls.length<=225000000)(hsz:∀s∈ls,s.length<=225000000)(f:Nat->Option qU)(hf:∀i s,ls[i]?=some s->f i=some s.reverse):
 Calls prog 55 #[.agg #[.int .i64 5,.string ⟨word.toArray⟩,.int .i64 n],.slice al ls.length cl] w fun e w'=>∃r,e=.returned r/\w'.ownsRow (w.heap.size+1) 9 1 r (M f ls.length).length ((M f ls.length).map S)/\Bq w w':=by
 obtain⟨i0,hi,hz0,hz1,hz2⟩:=info_parts J9;have Hl:Hid _:=hl;obtain⟨-,al',cl',e4,-,-,hl5⟩:=hl;simp only[xT,true_and]at e4;obtain⟨rfl,rfl⟩:=e4;generalize hL:ls.length=L at *;go_enter func55,ntmps55;go_wp2_with fail
 go_loopw [5,16] (fun v5 i wr=>∃k:Nat,k<=L/\i=.int .i64 k/\wr.ownsRow (w.heap.size+1) 9 1 v5 (M f k).length ((M f k).map S)/\Below (w.heap.size+1) (w.alloc (.cells #[.int .i64 5,.string ⟨word.toArray⟩,.int .i64 n] 54)) wr)
  (fun _ i _=>L-(intOf i).toNat)
 case atStart=>exact⟨0,qM _,rfl,by rw[ag1];exact World.ownsRow_nil _ _ _ _,Below.refl _ _⟩
 case round=>
  obtain⟨k,hk,rfl,Ab,Aa⟩:=hrel;obtain⟨bx0,bx1,bx2⟩:=F9 Aa;have hMl:=as6 f k;by_cases hlt:k<L
  .
   obtain⟨b,off,rfl,hc⟩:=hl5 qO;have Ai:wr.cell? ⟨b,off+k,none⟩=some (.string ⟨(ls[k]'(by omega)).toArray⟩):=((l8 Aa).cell (bLt w _ (hc k (S (ls[k]'(by omega))) (by simp[hL,hlt])))).trans (hc k _ (by simp[S,hL,hlt]));have hfk:=hf k (ls[k]'(by omega)) (gEl _);have hsk:(ls[k]'(by omega)).length<=225000000:=hsz _ (zZ _);have Hf:Hid _:=ag2 hfk;generalize hlk:ls[k]'(by omega)=l at *;obtain⟨sx,hsx,Ac⟩:∃sx:ByteArray,Hid (Value.string sx=S l)/\wr.cell? ⟨b,off+k,none⟩=some (.string sx):=⟨⟨l.toArray⟩,rfl,Ai⟩;have hsl:sx.size=l.length:=ae8 hsx.out;clear hc hl5 Ai hfk hf hlk;obtain⟨w5,hw5⟩:=qE wr;subst hw5;go_wp2_with fail;go_loopw [12,13] (fun t i w2=>∃(j:Nat)(z:Int)(tx:ByteArray),j<=l.length/\z=(j:Int)-1/\i=.int .i64 z/\t=.string tx/\w2=w5/\Hid (tx.data.toList=(l.drop j).reverse)) (fun _ i _=>(intOf i+1).toNat)
   case atStart=>exact⟨l.length,_,⟨#[]⟩,qA _,rfl,rfl,rfl,rfl,(show _=_ by simp)⟩
   case round=>
    obtain⟨j,z,tx,hj,hz,rfl,rfl,hw,htx⟩:=hrel;obtain rfl:w5=wr:=hw.symm;clear hw;by_cases hj0:0<j
    . obtain⟨i,rfl⟩:∃i,j=i+1:=⟨j-1,qO⟩;obtain rfl:z=(i:Int):=qO;clear hz;have HT:Hid _:=bM1 hsx.out htx.out (show i<l.length by omega);have hil:i<l.length:=qO;have hts:tx.size<=225000000:=by have h:=congrArg List.length htx.out;rw[List.length_reverse,qy]at h;have h2:tx.data.toList.length=tx.size:=zF;omega
      go_wp2_with fail;go_roundw
      case rel=>exact⟨i,_,_,qO,rfl,by go_num,rfl,by simp,HT.o⟩
      case measure=>simp[intOf]
    .
     have hj1:j=0:=qO;subst hj1;obtain rfl:z = -1:=qO;clear hz
     have hnx:=qH (show Value.string tx=S l.reverse by
      have h:=htx.out
      rw[List.drop_zero]at h
      unfold S
      rw[<- h])
     go_wp2_with ((at_builtin;refine xB _ rfl (.tmp 125) (.tmp 127) 110 rfl (w.heap.size+1) 9 i0 (.string ⟨#[]⟩) 1 16 underlying110 hi hz0 hz1 hz2 rfl (by decide) _ _ _ rfl (Ab.alloc _) ⟨w5.heap.size,0,none⟩ 1 1 [.string tx] rfl rfl ?c1 ?c2 ?c3 ?c4 ?c5 ?_))
     case c1=>
      intro j u hj
      match j,hj with
      | 0,hj=>simp at hj;subst hj;simp[Addr.add]
     case c2=>intro u hu;simp at hu;subst hu;rfl
     case c3=>unfold maxLen;omega
     case c4=>omega
     case c5=>have:=Aa.size;simp at this;simp;omega
     . intro v' w1 Ag Am _;have R:Hid _:=Q8 Ab Aa hnx.out Ag Am;clear Ag Am Ab Aa Ac bx0 bx1 bx2;go_wp2_with fail;go_roundw
       case rel=>exact⟨k+1,qO,by go_num,by rw[Hf.o];exact R.o.1,R.o.2⟩
       case measure=>simp[intOf];omega
  . clear hl5;have hkn:k=L:=qO;subst hkn;have HB:Hid _:=l8 Aa;clear Aa;go_wp2_with fail;go_ret;exact⟨_,rfl,Ab,HB.o⟩
end Go.Proofs.YtmejdflmcikkdaaGreatDoor
