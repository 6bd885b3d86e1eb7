/- What the reference's Made does to lines, and more. -/
import Derived.Test.YtllgglolcgdehaaGreatDoorSAb
import Derived.Test.YtllgglolcgdehaaGreatDoorSa12
import Derived.Test.YtllgglolcgdehaaGreatDoorSa07
set_option linter.all false
set_option maxRecDepth 100000
set_option maxHeartbeats 16000000
namespace Go.Proofs.YtllgglolcgdehaaGreatDoor
open Go.RowKit Go.Gs Tryz
theorem aJ3(v:Value)(ls:List (List UInt8))(w:World)(B:Nat)(hB:B<=w.heap.size)(Ab:w.ownsRow B 9 1 v ls.length (ls.map S))(hl:ls.length<=1000000):
 Calls prog 137 #[v] w fun e w'=>e=.returned (.tuple #[])/\w'.ownsRow B 9 1 v (I8 ls).length ((I8 ls).map S)/\Below B w w':=by
 rcases Y4 Ab with⟨rfl,rfl⟩|⟨g,cap,rfl,hBg,hgw,hcap,hcm,hH⟩
 . refine (Tryz.sort_Strings_none none 0 w).mono ?_;rintro e w'⟨rfl,rfl⟩;exact⟨rfl,by simpa[I8]using World.ownsRow_nil w' B 9 1,qI _ _⟩
 .
  refine (Tryz.sort_Strings g 0 cap ls w hH hgw (by omega)).mono ?_;rintro e w'⟨rfl,nn,os,rfl⟩;have hlen:(I8 ls).length=ls.length:=(F7 ls).length_eq;refine⟨rfl,?_,?_⟩
  . rw[hlen];exact aN8 Ab rfl hlen
  . exact (qI B w).grown (grownBy_sorted _) hB (fun j hj=>by cases hj;exact hBg)
theorem bP3(al:Option Addr)(cl:Nat)(word:List UInt8)(n:Int)(ls:List (List UInt8))(w:World)(hl:Reads w (.slice al ls.length cl) ls.length (ls.map S))(hLm:ls.length<=900000)(hsz:∀s∈ls,s.length<=900000)(f:Nat->Option (List UInt8))(hf:∀i s,ls[i]? = some s->f i=some s):
 Calls prog 85 #[.agg #[.int .i64 6,.string ⟨word.toArray⟩,.int .i64 n],.slice al ls.length cl] w fun e w'=>∃r,e=.returned r/\Reads w' r (I8 (M f ls.length)).length ((I8 (M f ls.length)).map S)/\Bq w w':=by
 obtain⟨i0,hi,hz0,hz1,hz2⟩:=info_parts N6;have Hl:Hid _:=hl;obtain⟨-,al',cl',e4,-,-,hl5⟩:=hl;simp only[xZ,true_and]at e4;obtain⟨rfl,rfl⟩:=e4;generalize hL:ls.length=L at *;go_enter Tryz.func85,Tryz.ntmps85;go_wp2_with fail
 go_loopw [5,16] (fun v5 i wr=>∃k:Nat,k<=L/\i=.int .i64 k/\wr.ownsRow (w.heap.size+1) 9 1 v5 (M f k).length ((M f k).map S)/\Below (w.heap.size+1) (w.alloc (.cells #[.int .i64 6,.string ⟨word.toArray⟩,.int .i64 n] 70)) wr)
  (fun _ i _=>L-(intOf i).toNat)
 case atStart=>exact⟨0,qP _,rfl,by rw[ag0];exact World.ownsRow_nil _ _ _ _,qI _ _⟩
 case round=>
  obtain⟨k,hk,rfl,Ab,Aa⟩:=hrel;obtain⟨bx0,bx1,bx2⟩:=G3 Aa;have hMl:=as7 f k;by_cases hlt:k<L
  .
   obtain⟨b,off,rfl,hc⟩:=hl5 (by omega);have Ah:wr.cell? ⟨b,off+k,none⟩=some (.string ⟨(ls[k]'(by omega)).toArray⟩):=((x8 Aa).cell (bLt w _ (hc k (S (ls[k]'(by omega))) (by simp[hL,hlt])))).trans (hc k _ (by simp[S,hL,hlt]));have hfk:=hf k (ls[k]'(by omega)) (gEl _);obtain⟨sx,hsx,Ac⟩:∃sx:ByteArray,Hid (Value.string sx=S (ls[k]'(by omega)))/\wr.cell? ⟨b,off+k,none⟩=some (.string sx):=⟨⟨(ls[k]'(by omega)).toArray⟩,rfl,Ah⟩;clear hc hl5 Ah;have Hf:Hid _:=ag1 hfk;clear hfk hf;go_wp2_with ((at_builtin;refine qx _ rfl (.tmp 125) (.tmp 127) 53 rfl (w.heap.size+1) 9 i0 (.string ⟨#[]⟩) 1 16 underlying53 hi hz0 hz1 hz2 rfl (by decide) _ _ _ rfl (Ab.alloc _) ⟨wr.heap.size,0,none⟩ 1 1 [.string sx] rfl rfl ?c1 ?c2 ?c3 ?c4 ?c5 ?_))
   case c1=>
    intro j u hj
    match j,hj with
    | 0,hj=>simp at hj;subst hj;simp[Addr.add]
   case c2=>intro u hu;simp at hu;subst hu;rfl
   case c3=>unfold maxLen;omega
   case c4=>omega
   case c5=>have:=Aa.size;simp at this;simp;omega
   . intro v' w1 Ag Af _;have R:Hid _:=O6 Ab Aa hsx.out Ag Af;clear Ag Af Ab Aa Ac bx0 bx1 bx2;go_wp2_with fail;go_roundw
     case rel=>exact⟨k+1,by omega,by go_num,by rw[Hf.out];exact R.out.1,R.out.2⟩
     case measure=>simp[intOf];omega
  . clear hl5;have hkn:k=L:=by omega
    subst hkn;have HW:=qH Ab;have HBl:=qH Aa;clear Aa Ab;go_wp2_with fail;refine (aJ3 _ (M f k) wr (w.heap.size+1) (by have:=HBl.out.size;simpa using this) HW.out (by omega)).mono ?_;rintro e w2⟨rfl,Bt,Qm⟩;have HR:Hid _:=Reads.of_owns Bt;have HB2:Hid (Below (w.heap.size+1) (w.alloc _) w2):=HBl.out.trans Qm;have HB:Hid _:=x8 HB2.out;obtain⟨bx0,bx1,bx2⟩:=G3 HB2.out;clear Bt Qm;go_wp2_with fail;go_ret;exact⟨_,rfl,HR.out,HB.out⟩
theorem bP4(al:Option Addr)(cl:Nat)(word:List UInt8)(n:Int)(ls:List (List UInt8))(w:World)(hl:Reads w (.slice al ls.length cl) ls.length (ls.map S))(hLm:ls.length<=900000)(hsz:∀s∈ls,s.length<=900000)(f:Nat->Option (List UInt8))(hf:∀i s,ls[i]? = some s->f i=if i=0\/ls[i-1]? ≠ some s then some s else none):
 Calls prog 85 #[.agg #[.int .i64 7,.string ⟨word.toArray⟩,.int .i64 n],.slice al ls.length cl] w fun e w'=>∃r,e=.returned r/\w'.ownsRow (w.heap.size+1) 9 1 r (M f ls.length).length ((M f ls.length).map S)/\Bq w w':=by
 obtain⟨i0,hi,hz0,hz1,hz2⟩:=info_parts N6;have Hl:Hid _:=hl;obtain⟨-,al',cl',e4,-,-,hl5⟩:=hl;simp only[xZ,true_and]at e4;obtain⟨rfl,rfl⟩:=e4;generalize hL:ls.length=L at *;go_enter Tryz.func85,Tryz.ntmps85;go_wp2_with fail
 go_loopw [5,16] (fun v5 i wr=>∃k:Nat,k<=L/\i=.int .i64 k/\wr.ownsRow (w.heap.size+1) 9 1 v5 (M f k).length ((M f k).map S)/\Below (w.heap.size+1) (w.alloc (.cells #[.int .i64 7,.string ⟨word.toArray⟩,.int .i64 n] 70)) wr)
  (fun _ i _=>L-(intOf i).toNat)
 case atStart=>exact⟨0,qP _,rfl,by rw[ag0];exact World.ownsRow_nil _ _ _ _,qI _ _⟩
 case round=>
  obtain⟨k,hk,rfl,Ab,Aa⟩:=hrel;obtain⟨bx0,bx1,bx2⟩:=G3 Aa;have hMl:=as7 f k;by_cases hlt:k<L
  .
   obtain⟨b,off,rfl,hc⟩:=hl5 (by omega);have Ah:wr.cell? ⟨b,off+k,none⟩=some (.string ⟨(ls[k]'(by omega)).toArray⟩):=((x8 Aa).cell (bLt w _ (hc k (S (ls[k]'(by omega))) (by simp[hL,hlt])))).trans (hc k _ (by simp[S,hL,hlt]));have hfk:=hf k (ls[k]'(by omega)) (gEl _);have hkm:k-1<ls.length:=by omega
   have Gq:wr.cell? ⟨b,off+(k-1),none⟩=some (.string ⟨(ls[k-1]'hkm).toArray⟩):=((x8 Aa).cell (bLt w _ (hc (k-1) (S (ls[k-1]'hkm)) (by simp[hkm])))).trans (hc (k-1) _ (by simp[S,hkm]));have Ht:ls[k-1]? = some (ls[k-1]'hkm):=gEl hkm;obtain⟨sx,hsx,Ac⟩:∃sx:ByteArray,Hid (Value.string sx=S (ls[k]'(by omega)))/\wr.cell? ⟨b,off+k,none⟩=some (.string sx):=⟨⟨(ls[k]'(by omega)).toArray⟩,rfl,Ah⟩;clear hc hl5 Ah;by_cases hk0:k=0
   .
    rw[qF (.inl hk0)]at hfk;have Hf:Hid _:=ag1 hfk;clear hfk hf Gq Ht;subst hk0;have Lh:wr.cell? ⟨b,off,none⟩=some (.string sx):=by simpa using Ac
    go_wp2_with ((at_builtin;refine qx _ rfl (.tmp 125) (.tmp 127) 53 rfl (w.heap.size+1) 9 i0 (.string ⟨#[]⟩) 1 16 underlying53 hi hz0 hz1 hz2 rfl (by decide) _ _ _ rfl (Ab.alloc _) ⟨wr.heap.size,0,none⟩ 1 1 [.string sx] rfl rfl ?c1 ?c2 ?c3 ?c4 ?c5 ?_))
    case c1=>
     intro j u hj
     match j,hj with
     | 0,hj=>simp at hj;subst hj;simp[Addr.add]
    case c2=>intro u hu;simp at hu;subst hu;rfl
    case c3=>unfold maxLen;omega
    case c4=>omega
    case c5=>have:=Aa.size;simp at this;simp;omega
    . intro v' w1 Ag Af _;have R:Hid _:=O6 Ab Aa hsx.out Ag Af;clear Ag Af Ab Aa Ac Lh bx0 bx1 bx2;go_wp2_with fail;go_roundw
      case rel=>exact⟨0+1,by omega,by go_num,by rw[Hf.out];exact R.out.1,R.out.2⟩
      case measure=>simp[intOf];omega
   .
    obtain⟨j,hj⟩:∃j,k=j+1:=⟨k-1,by omega⟩;have hki:¬((k:Int)=0):=by omega
    have hkj:(k:Int)-1=(j:Int):=by omega
    have hjL:(j:Int)<L:=by omega
    have hjk:k-1=j:=by omega
    obtain⟨px,hpx,Tq⟩:∃px:ByteArray,Hid (Value.string px=S (ls[k-1]'hkm))/\wr.cell? ⟨b,off+(k-1),none⟩=some (.string px):=⟨⟨(ls[k-1]'hkm).toArray⟩,rfl,Gq⟩;rw[hjk]at Tq;have HJ:Hid _:=hj;clear Gq hjk hj;by_cases heq:ls[k-1]'hkm=ls[k]'(by omega)
    . rw[qA (by rw[Ht,heq];simp[hk0])]at hfk;have Hf:Hid _:=aC8 hfk;obtain rfl:px=sx:=by have h1:=hpx.out;rw[heq,<- hsx.out]at h1;injection h1
      clear hfk hf Ht heq hpx;go_wp2_with fail;go_roundw
      case rel=>exact⟨k+1,by omega,by go_num,by rw[Hf.out];exact Ab,Aa⟩
      case measure=>simp[intOf];omega
    .
     rw[qF (.inr (by rw[Ht];simpa using heq))]at hfk;have Hf:Hid _:=ag1 hfk;have hne:¬(px=sx):=by intro h;subst h;have h1:=hpx.out;rw[hsx.out]at h1;unfold S at h1;injection h1 with h1;injection h1 with h1;exact heq (List.toArray_inj h1).symm
     have Wv:(px.toList==sx.toList)=false:=beq_eq_false_iff_ne.2 (fun h=>hne (by
      rw[Lib.toList_data,Lib.toList_data]at h
      cases px;cases sx
      simpa using congrArg List.toArray h))
     have hki':((k:Int)==0)=false:=beq_eq_false_iff_ne.2 hki;clear hfk hf Ht heq hpx hne;go_wp2_with ((at_builtin;refine qx _ rfl (.tmp 125) (.tmp 127) 53 rfl (w.heap.size+1) 9 i0 (.string ⟨#[]⟩) 1 16 underlying53 hi hz0 hz1 hz2 rfl (by decide) _ _ _ rfl (Ab.alloc _) ⟨wr.heap.size,0,none⟩ 1 1 [.string sx] rfl rfl ?c1 ?c2 ?c3 ?c4 ?c5 ?_))
     case c1=>
      intro j u hj
      match j,hj with
      | 0,hj=>simp at hj;subst hj;simp[Addr.add]
     case c2=>intro u hu;simp at hu;subst hu;rfl
     case c3=>unfold maxLen;omega
     case c4=>omega
     case c5=>have:=Aa.size;simp at this;simp;omega
     . intro v' w1 Ag Af _;have R:Hid _:=O6 Ab Aa hsx.out Ag Af;clear Ag Af Ab Aa Ac bx0 bx1 bx2;go_wp2_with fail;go_roundw
       case rel=>exact⟨k+1,by omega,by go_num,by rw[Hf.out];exact R.out.1,R.out.2⟩
       case measure=>simp[intOf];omega
  . clear hl5;have hkn:k=L:=by omega
    subst hkn;have HB:Hid _:=x8 Aa;clear Aa;go_wp2_with fail;go_ret;exact⟨_,rfl,Ab,HB.out⟩
theorem av7 (al:Option Addr) (cl:Nat) (word:List UInt8) (n:Int) (ls:List (List UInt8)) (w:World) (hl:Reads w (.slice al ls.length cl) ls.length (ls.map S)) (hLm:ls.length<=900000) (hsz:∀s∈ls,s.length<=900000) (f:Nat->Option (List UInt8)) (hf:∀i s,ls[i]? = some s->f i=none) (htab:Lib.TabIs prog w "internal/strconv.uint64pow10" .u64 Lib.pow10Tab) :
 Calls prog 85 #[.agg #[.int .i64 8,.string ⟨word.toArray⟩,.int .i64 n],.slice al ls.length cl] w fun e w'=>∃r,e=.returned r/\Reads w' r 1 [S (Lib.itoa (ls.length:Int))]/\Bq w w':=by
 have hI:=fun(W:World)(h:Bq w W)=>Tryz.strconv_Itoa ls.length (by omega) (by omega) W (tab_below htab h);obtain⟨t,ht⟩:=qE (Lib.itoa (ls.length:Int));rw[<- ht]at hI ⊢;clear ht htab;obtain⟨i0,hi,hz0,hz1,hz2⟩:=info_parts N6;have Hl:Hid _:=hl;obtain⟨-,al',cl',e4,-,-,hl5⟩:=hl;simp only[xZ,true_and]at e4;obtain⟨rfl,rfl⟩:=e4;generalize hL:ls.length=L at *;have HI:Hid _:=hI;clear hI;go_enter Tryz.func85,Tryz.ntmps85;go_wp2_with fail
 go_loopw [5,16] (fun v5 i wr=>∃k:Nat,k<=L/\i=.int .i64 k/\wr.ownsRow (w.heap.size+1) 9 1 v5 (M f k).length ((M f k).map S)/\Below (w.heap.size+1) (w.alloc (.cells #[.int .i64 8,.string ⟨word.toArray⟩,.int .i64 n] 70)) wr)
  (fun _ i _=>L-(intOf i).toNat)
 case atStart=>exact⟨0,qP _,rfl,by rw[ag0];exact World.ownsRow_nil _ _ _ _,qI _ _⟩
 case round=>
  obtain⟨k,hk,rfl,Ab,Aa⟩:=hrel;obtain⟨bx0,bx1,bx2⟩:=G3 Aa;have hMl:=as7 f k;by_cases hlt:k<L
  . obtain⟨b,off,rfl,hc⟩:=hl5 (by omega);have Ah:wr.cell? ⟨b,off+k,none⟩=some (.string ⟨(ls[k]'(by omega)).toArray⟩):=((x8 Aa).cell (bLt w _ (hc k (S (ls[k]'(by omega))) (by simp[hL,hlt])))).trans (hc k _ (by simp[S,hL,hlt]));have hfk:=hf k (ls[k]'(by omega)) (gEl _);obtain⟨sx,hsx,Ac⟩:∃sx:ByteArray,Hid (Value.string sx=S (ls[k]'(by omega)))/\wr.cell? ⟨b,off+k,none⟩=some (.string sx):=⟨⟨(ls[k]'(by omega)).toArray⟩,rfl,Ah⟩;clear hc hl5 Ah;have Hf:Hid _:=aC8 hfk;clear hfk hf;go_wp2_with fail;go_roundw
    case rel=>exact⟨k+1,by omega,by go_num,by rw[Hf.out];exact Ab,Aa⟩
    case measure=>simp[intOf];omega
  . clear hl5;have hkn:k=L:=by omega
    subst hkn;have HB:Hid _:=x8 Aa;clear Aa Ab;go_wp2_with fail;refine (HI.out _ HB.out).mono ?_;rintro e w2⟨rfl,q,os,hw2⟩;have HB2:Hid (Bq w w2):=by rw[hw2];exact HB.out.trans ((ao4 (w:=wr) q os (qB _)).mono HB.out.size)
    clear hw2;go_wp2_with fail;go_ret;exact⟨_,rfl,by simpa[S]using aq8 w2 #[S t] 9 (0,0) 1 rfl (by omega),HB2.out.trans (((qI _ w2).alloc (qB _) _).mono HB2.out.size)⟩
theorem az1(l:List UInt8)(sx:ByteArray)(hsx:Value.string sx=S l)(m:Int)(w:World)(hm:w.cell? ⟨0,0,none⟩=some (.int .i64 m))(hle:l.length<=900000)(N:Nat)(hN:(Lib.split l [32]).length=N):
 Calls prog 136 #[.string sx,.string ⟨#[32]⟩] w fun e w'=>
  e=.returned (.slice (some ⟨w.heap.size,0,none⟩) N N)/\Hid (∀j p,(Lib.split l [32])[j]? = some p->w'.cell? ⟨w.heap.size,j,none⟩=some (.string ⟨p.toArray⟩))/\Hid (Bq w w'):=by
 have hd:=ae2 hsx;have hz:=ae3 hsx;have hlen:Lib.countB sx ⟨#[32]⟩+1=N:=by have h1:=Lib.splitB_all ⟨#[32]⟩ (by decide) 0 _ sx rfl;have h2:=congrArg List.length (Lib.splitB_data ⟨#[32]⟩ 0 (Lib.countB sx ⟨#[32]⟩) sx);rw[qM,h1,hd]at h2;rw[<- hN,h2];show _=(Lib.splitK [32] 0 (Lib.count l [32]) l).length;unfold Lib.countB;rw[hd]
 have hp:(Lib.splitB ⟨#[32]⟩ 0 (Lib.countB sx ⟨#[32]⟩) sx).map (·.data.toList)=Lib.split l [32]:=by rw[Lib.splitB_data,hd];unfold Lib.countB Lib.split;rw[hd]
 refine (Tryz.strings_Split sx ⟨#[32]⟩ m w (by omega) hm (by decide)).mono ?_;rintro e w'⟨rfl,rfl⟩;rw[hlen,aX1,hp];refine⟨rfl,?_,(qI _ w).alloc (qB _) _⟩;intro j p hj;rw[qV _ _ _ _ _ _ (qN w _)];simp[hj,S]
theorem bB9(al:Option Addr)(cl:Nat)(word:List UInt8)(n:Int)(ls:List (List UInt8))(w:World)(hl:Reads w (.slice al ls.length cl) ls.length (ls.map S))(hLm:ls.length<=900000)(hsz:∀s∈ls,s.length<=900000)(m:Int)(hm:w.cell? ⟨0,0,none⟩=some (.int .i64 m))(hn1:1<=n)(hn2:n<=1000)(f:Nat->Option (List UInt8))(hf:∀i s,ls[i]? = some s->f i=some (E4 n s)):
 Calls prog 85 #[.agg #[.int .i64 4,.string ⟨word.toArray⟩,.int .i64 n],.slice al ls.length cl] w fun e w'=>∃r,e=.returned r/\w'.ownsRow (w.heap.size+1) 9 1 r (M f ls.length).length ((M f ls.length).map S)/\Bq w w':=by
 obtain⟨i0,hi,hz0,hz1,hz2⟩:=info_parts N6;have Hl:Hid _:=hl;obtain⟨-,al',cl',e4,-,-,hl5⟩:=hl;simp only[xZ,true_and]at e4;obtain⟨rfl,rfl⟩:=e4;generalize hL:ls.length=L at *;have HM:Hid _:=hm;have hmb:=bLt w _ hm;clear hm;go_enter Tryz.func85,Tryz.ntmps85;go_wp2_with fail
 go_loopw [5,16] (fun v5 i wr=>∃k:Nat,k<=L/\i=.int .i64 k/\wr.ownsRow (w.heap.size+1) 9 1 v5 (M f k).length ((M f k).map S)/\Below (w.heap.size+1) (w.alloc (.cells #[.int .i64 4,.string ⟨word.toArray⟩,.int .i64 n] 70)) wr)
  (fun _ i _=>L-(intOf i).toNat)
 case atStart=>exact⟨0,qP _,rfl,by rw[ag0];exact World.ownsRow_nil _ _ _ _,qI _ _⟩
 case round=>
  obtain⟨k,hk,rfl,Ab,Aa⟩:=hrel;obtain⟨bx0,bx1,bx2⟩:=G3 Aa;have hMl:=as7 f k;by_cases hlt:k<L
  .
   obtain⟨b,off,rfl,hc⟩:=hl5 (by omega);have Ah:wr.cell? ⟨b,off+k,none⟩=some (.string ⟨(ls[k]'(by omega)).toArray⟩):=((x8 Aa).cell (bLt w _ (hc k (S (ls[k]'(by omega))) (by simp[hL,hlt])))).trans (hc k _ (by simp[S,hL,hlt]));have hfk:=hf k (ls[k]'(by omega)) (gEl _);have hsk:(ls[k]'(by omega)).length<=900000:=hsz _ (zH _);have Hf:Hid _:=ag1 hfk;generalize hlk:ls[k]'(by omega)=l at *;obtain⟨sx,hsx,Ac⟩:∃sx:ByteArray,Hid (Value.string sx=S l)/\wr.cell? ⟨b,off+k,none⟩=some (.string sx):=⟨⟨l.toArray⟩,rfl,Ah⟩;clear hc hl5 Ah hfk hf hlk;obtain⟨N,hN⟩:∃N,(Lib.split l [32]).length=N:=⟨_,rfl⟩;have HF1:=aO3 n l;have HF2:=aO4 n l;have hN4:N<=900001:=by have h1:=aD6 l;have h2:=count_le l;omega
   have hmr:wr.cell? ⟨0,0,none⟩=some (.int .i64 m):=((x8 Aa).cell hmb).trans HM.out;have HMR:Hid _:=hmr;have HN:Hid _:=hN;by_cases hnN:n<=N
   .
    obtain⟨p,hp⟩:∃p,(Lib.split l [32])[(n-1).toNat]? = some p:=⟨_,gEl (by omega)⟩;have HE:Hid (E4 n l=p):=HF1 p hn1 hp;have Hp:Hid _:=hp;clear HF1 HF2 hp hN hmr;go_wp2_with fail;refine (az1 l sx hsx.out m wr HMR.out hsk N HN.out).mono ?_;rintro e w7⟨rfl,hpc,hb7⟩;have Ez:=D5 Ab hb7.out;have Dv:=Aa.trans (hb7.out.mono (by have:=Aa.size;simpa using this));obtain⟨bx0',bx1',bx2'⟩:=G3 Dv;have hv:=hpc.out _ _ Hp.out;obtain⟨i,hi7⟩:∃i:Nat,n=(i:Int)+1:=⟨(n-1).toNat,by omega⟩;have hin:(n-1).toNat=i:=by omega
    rw[hin]at hv;obtain⟨nx,hnx,hv'⟩:∃nx:ByteArray,Hid (Value.string nx=S (E4 n l))/\w7.cell? ⟨wr.heap.size,i,none⟩=some (.string nx):=⟨⟨p.toArray⟩,(show _=_ by rw[HE.out];rfl),hv⟩;have hiN:(i:Int)<N:=by omega
    clear hv hin HMR HN Hp HE hpc hb7 Ab Aa Ac bx0 bx1 bx2;have hni:n-1=(i:Int):=by omega
    clear hi7;go_wp2_with ((at_builtin;refine qx _ rfl (.tmp 125) (.tmp 127) 53 rfl (w.heap.size+1) 9 i0 (.string ⟨#[]⟩) 1 16 underlying53 hi hz0 hz1 hz2 rfl (by decide) _ _ _ rfl (Ez.alloc _) ⟨w7.heap.size,0,none⟩ 1 1 [.string nx] rfl rfl ?c1 ?c2 ?c3 ?c4 ?c5 ?_))
    case c1=>
     intro j u hj
     match j,hj with
     | 0,hj=>simp at hj;subst hj;simp[Addr.add]
    case c2=>intro u hu;simp at hu;subst hu;rfl
    case c3=>unfold maxLen;omega
    case c4=>omega
    case c5=>have:=Dv.size;simp at this;simp;omega
    . intro v' w1 Ag Af _;have R:Hid _:=O6 Ez Dv hnx.out Ag Af;clear Ag Af Ez Dv;go_wp2_with fail;go_roundw
      case rel=>exact⟨k+1,by omega,by go_num,by rw[Hf.out];exact R.out.1,R.out.2⟩
      case measure=>simp[intOf];omega
   .
    have HE:Hid (E4 n l=[]):=HF2 (by omega);clear HF1 HF2 hN hmr;go_wp2_with fail;refine (az1 l sx hsx.out m wr HMR.out hsk N HN.out).mono ?_;rintro e w7⟨rfl,hpc,hb7⟩;have Ez:=D5 Ab hb7.out;have Dv:=Aa.trans (hb7.out.mono (by have:=Aa.size;simpa using this));obtain⟨bx0',bx1',bx2'⟩:=G3 Dv;obtain⟨nx,hnx,hnxe⟩:∃nx:ByteArray,Hid (Value.string nx=S (E4 n l))/\nx=⟨#[]⟩:=⟨⟨#[]⟩,(show _=_ by rw[HE.out];rfl),rfl⟩;subst hnxe;clear HMR HN HE hpc hb7 Ab Aa Ac bx0 bx1 bx2;go_wp2_with ((at_builtin;refine qx _ rfl (.tmp 125) (.tmp 127) 53 rfl (w.heap.size+1) 9 i0 (.string ⟨#[]⟩) 1 16 underlying53 hi hz0 hz1 hz2 rfl (by decide) _ _ _ rfl (Ez.alloc _) ⟨w7.heap.size,0,none⟩ 1 1 [.string ⟨#[]⟩] rfl rfl ?c1 ?c2 ?c3 ?c4 ?c5 ?_))
    case c1=>
     intro j u hj
     match j,hj with
     | 0,hj=>simp at hj;subst hj;simp[Addr.add]
    case c2=>intro u hu;simp at hu;subst hu;rfl
    case c3=>unfold maxLen;omega
    case c4=>omega
    case c5=>have:=Dv.size;simp at this;simp;omega
    . intro v' w1 Ag Af _;have R:Hid _:=O6 Ez Dv hnx.out Ag Af;clear Ag Af Ez Dv;go_wp2_with fail;go_roundw
      case rel=>exact⟨k+1,by omega,by go_num,by rw[Hf.out];exact R.out.1,R.out.2⟩
      case measure=>simp[intOf];omega
  . clear hl5;have hkn:k=L:=by omega
    subst hkn;have HB:Hid _:=x8 Aa;clear Aa;go_wp2_with fail;go_ret;exact⟨_,rfl,Ab,HB.out⟩
theorem bP5(l:List UInt8)(j:Nat)(hj:j<l.length):(l.drop j).reverse=(l.drop (j+1)).reverse++[l[j]]:=by rw[qh hj,List.reverse_cons]
theorem bP6{l:List UInt8}{sx tx:ByteArray}{i:Nat}(hsx:Value.string sx=S l)(htx:tx.data.toList=(l.drop (i+1)).reverse)(hi:i<l.length):(tx++sx.extract i (i+1)).data.toList=(l.drop i).reverse:=by rw[bP5 l i hi,<- htx,ByteArray.data_append,Array.toList_append,Lib.extract_data,ae2 hsx];congr 1;rw[qh hi,show i+1-i=1 by omega];rfl
theorem bP7(al:Option Addr)(cl:Nat)(word:List UInt8)(n:Int)(ls:List (List UInt8))(w:World)(hl:Reads w (.slice al ls.length cl) ls.length (ls.map S))(hLm:ls.length<=900000)(hsz:∀s∈ls,s.length<=900000)(f:Nat->Option (List UInt8))(hf:∀i s,ls[i]? = some s->f i=some s.reverse):
 Calls prog 85 #[.agg #[.int .i64 5,.string ⟨word.toArray⟩,.int .i64 n],.slice al ls.length cl] w fun e w'=>∃r,e=.returned r/\w'.ownsRow (w.heap.size+1) 9 1 r (M f ls.length).length ((M f ls.length).map S)/\Bq w w':=by
 obtain⟨i0,hi,hz0,hz1,hz2⟩:=info_parts N6;have Hl:Hid _:=hl;obtain⟨-,al',cl',e4,-,-,hl5⟩:=hl;simp only[xZ,true_and]at e4;obtain⟨rfl,rfl⟩:=e4;generalize hL:ls.length=L at *;go_enter Tryz.func85,Tryz.ntmps85;go_wp2_with fail
 go_loopw [5,16] (fun v5 i wr=>∃k:Nat,k<=L/\i=.int .i64 k/\wr.ownsRow (w.heap.size+1) 9 1 v5 (M f k).length ((M f k).map S)/\Below (w.heap.size+1) (w.alloc (.cells #[.int .i64 5,.string ⟨word.toArray⟩,.int .i64 n] 70)) wr)
  (fun _ i _=>L-(intOf i).toNat)
 case atStart=>exact⟨0,qP _,rfl,by rw[ag0];exact World.ownsRow_nil _ _ _ _,qI _ _⟩
 case round=>
  obtain⟨k,hk,rfl,Ab,Aa⟩:=hrel;obtain⟨bx0,bx1,bx2⟩:=G3 Aa;have hMl:=as7 f k;by_cases hlt:k<L
  .
   obtain⟨b,off,rfl,hc⟩:=hl5 (by omega);have Ah:wr.cell? ⟨b,off+k,none⟩=some (.string ⟨(ls[k]'(by omega)).toArray⟩):=((x8 Aa).cell (bLt w _ (hc k (S (ls[k]'(by omega))) (by simp[hL,hlt])))).trans (hc k _ (by simp[S,hL,hlt]));have hfk:=hf k (ls[k]'(by omega)) (gEl _);have hsk:(ls[k]'(by omega)).length<=900000:=hsz _ (zH _);have Hf:Hid _:=ag1 hfk;generalize hlk:ls[k]'(by omega)=l at *;obtain⟨sx,hsx,Ac⟩:∃sx:ByteArray,Hid (Value.string sx=S l)/\wr.cell? ⟨b,off+k,none⟩=some (.string sx):=⟨⟨l.toArray⟩,rfl,Ah⟩;have hsl:sx.size=l.length:=ae3 hsx.out;clear hc hl5 Ah hfk hf hlk;obtain⟨w5,hw5⟩:=qE wr;subst hw5;go_wp2_with fail;go_loopw [12,13] (fun t i w2=>∃(j:Nat)(z:Int)(tx:ByteArray),j<=l.length/\z=(j:Int)-1/\i=.int .i64 z/\t=.string tx/\w2=w5/\Hid (tx.data.toList=(l.drop j).reverse)) (fun _ i _=>(intOf i+1).toNat)
   case atStart=>exact⟨l.length,_,⟨#[]⟩,qB _,rfl,rfl,rfl,rfl,(show _=_ by simp)⟩
   case round=>
    obtain⟨j,z,tx,hj,hz,rfl,rfl,hw,htx⟩:=hrel;obtain rfl:w5=wr:=hw.symm;clear hw;by_cases hj0:0<j
    .
     obtain⟨i,rfl⟩:∃i,j=i+1:=⟨j-1,by omega⟩;obtain rfl:z=(i:Int):=by omega
     clear hz;have HT:Hid _:=bP6 hsx.out htx.out (show i<l.length by omega);have hil:i<l.length:=by omega
     have hts:tx.size<=900000:=by have h:=congrArg List.length htx.out;rw[List.length_reverse,qo]at h;have h2:tx.data.toList.length=tx.size:=xY;omega
     go_wp2_with fail;go_roundw
     case rel=>exact⟨i,_,_,by omega,rfl,by go_num,rfl,by simp,HT.out⟩
     case measure=>simp[intOf]
    .
     have hj1:j=0:=by omega
     subst hj1;obtain rfl:z = -1:=by omega
     clear hz
     have hnx:=qH (show Value.string tx=S l.reverse by
      have h:=htx.out
      rw[List.drop_zero]at h
      unfold S
      rw[<- h])
     go_wp2_with ((at_builtin;refine qx _ rfl (.tmp 125) (.tmp 127) 53 rfl (w.heap.size+1) 9 i0 (.string ⟨#[]⟩) 1 16 underlying53 hi hz0 hz1 hz2 rfl (by decide) _ _ _ rfl (Ab.alloc _) ⟨w5.heap.size,0,none⟩ 1 1 [.string tx] rfl rfl ?c1 ?c2 ?c3 ?c4 ?c5 ?_))
     case c1=>
      intro j u hj
      match j,hj with
      | 0,hj=>simp at hj;subst hj;simp[Addr.add]
     case c2=>intro u hu;simp at hu;subst hu;rfl
     case c3=>unfold maxLen;omega
     case c4=>omega
     case c5=>have:=Aa.size;simp at this;simp;omega
     . intro v' w1 Ag Af _;have R:Hid _:=O6 Ab Aa hnx.out Ag Af;clear Ag Af Ab Aa Ac bx0 bx1 bx2;go_wp2_with fail;go_roundw
       case rel=>exact⟨k+1,by omega,by go_num,by rw[Hf.out];exact R.out.1,R.out.2⟩
       case measure=>simp[intOf];omega
  . clear hl5;have hkn:k=L:=by omega
    subst hkn;have HB:Hid _:=x8 Aa;clear Aa;go_wp2_with fail;go_ret;exact⟨_,rfl,Ab,HB.out⟩
end Go.Proofs.YtllgglolcgdehaaGreatDoor
