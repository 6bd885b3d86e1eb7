/- What the reference's Made does to lines, kind by kind. -/
import Derived.Test.YtllgglolcgdehaaGreatDoorSAb
import Derived.Test.YtllgglolcgdehaaGreatDoorSa01
set_option linter.all false
set_option maxRecDepth 100000
set_option maxHeartbeats 16000000
namespace Go.Proofs.YtllgglolcgdehaaGreatDoor
open Go.RowKit Go.Gs Tryz
def M(f:Nat->Option (List UInt8))(k:Nat):List (List UInt8):=(List.range k).filterMap f
theorem ag0(f:Nat->Option (List UInt8)):M f 0=[]:=rfl
theorem ag1{f:Nat->Option (List UInt8)}{k:Nat}{s:List UInt8}(h:f k=some s):M f (k+1)=M f k++[s]:=by unfold M;rw[zl,List.filterMap_append];simp[h]
theorem aC8{f:Nat->Option (List UInt8)}{k:Nat}(h:f k=none):M f (k+1)=M f k:=by unfold M;rw[zl,List.filterMap_append];simp[h]
theorem as7(f:Nat->Option (List UInt8))(k:Nat):(M f k).length<=k:=by have:=List.length_filterMap_le f (List.range k);simpa[M]using this
theorem G3{w w1:World}{a b c:Value}{t:TypeId}(h:Below (w.heap.size+1) (w.alloc (.cells #[a,b,c] t)) w1):
 w1.cell? ⟨w.heap.size,0,none⟩=some a/\w1.cell? ⟨w.heap.size,1,none⟩=some b/\w1.cell? ⟨w.heap.size,2,none⟩=some c:=by
 refine⟨?_,?_,?_⟩
 all_goals
  rw[h.cell (by simp),qV _ _ _ _ _ _ (qN w _)];rfl
theorem x8{w w1:World}{o:Obj}(h:Below (w.heap.size+1) (w.alloc o) w1):Bq w w1:=
 ((qI _ w).alloc (qB _) o).trans (h.mono (by omega))
theorem aX2{w w':World}(h:w.ShapedOpen prog)(hb:Bq w w'):w'.ShapedOpen prog:=
 h.keptBut (hb.frame (fun _=>False)) (fun _ hp=>hp.elim)
theorem ae2{sx:ByteArray}{l:List UInt8}(h:Value.string sx=S l):sx.data.toList=l:=by unfold S at h;injection h with h;rw[h]
theorem ae3{sx:ByteArray}{l:List UInt8}(h:Value.string sx=S l):sx.size=l.length:=by rw[<- ae2 h];exact Array.length_toList.symm
theorem O6{w wr w1:World}{O o:Obj}{v v':Value}{D:List (List UInt8)}{l:List UInt8}{sx:ByteArray}(Ab:wr.ownsRow (w.heap.size+1) 9 1 v D.length (D.map S))(Aa:Below (w.heap.size+1) (w.alloc O) wr)(hsx:Value.string sx=S l)
 (Ag:w1.ownsRow (w.heap.size+1) 9 1 v' (D.length+1) (D.map S++[.string sx])) (Af:(wr.alloc o).grownBy w1 v.ownBlock):
 w1.ownsRow (w.heap.size+1) 9 1 v' (D++[l]).length ((D++[l]).map S)/\Below (w.heap.size+1) (w.alloc O) w1:=by
 have hs:w.heap.size+1<=wr.heap.size:=by have:=Aa.size;simpa using this
 refine⟨by simpa[<- hsx]using Ag,?_⟩;exact (Aa.alloc hs o).grown Af (by simp;omega) (fun k hk=>(Ab.lt k hk).1)
theorem bM2(al:Option Addr)(cl:Nat)(word:List UInt8)(n:Int)(ls:List (List UInt8))(w:World)(hl:Reads w (.slice al ls.length cl) ls.length (ls.map S))(hLm:ls.length<=900000)(hsz:∀s∈ls,s.length<=900000)(f:Nat->Option (List UInt8))(hf:∀i s,ls[i]? = some s->f i=if (i:Int)<n then some s else none):
 Calls prog 85 #[.agg #[.int .i64 9,.string ⟨word.toArray⟩,.int .i64 n],.slice al ls.length cl] w fun e w'=>∃r,e=.returned r/\w'.ownsRow (w.heap.size+1) 9 1 r (M f ls.length).length ((M f ls.length).map S)/\Bq w w':=by
 obtain⟨i0,hi,hz0,hz1,hz2⟩:=info_parts N6;have Hl:Hid _:=hl;obtain⟨-,al',cl',e4,-,-,hl5⟩:=hl;simp only[xZ,true_and]at e4;obtain⟨rfl,rfl⟩:=e4;generalize hL:ls.length=L at *;go_enter Tryz.func85,Tryz.ntmps85;go_wp2_with fail
 go_loopw [5,16] (fun v5 i wr=>∃k:Nat,k<=L/\i=.int .i64 k/\wr.ownsRow (w.heap.size+1) 9 1 v5 (M f k).length ((M f k).map S)/\Below (w.heap.size+1) (w.alloc (.cells #[.int .i64 9,.string ⟨word.toArray⟩,.int .i64 n] 70)) wr)
  (fun _ i _=>L-(intOf i).toNat)
 case atStart=>exact⟨0,qP _,rfl,by rw[ag0];exact World.ownsRow_nil _ _ _ _,qI _ _⟩
 case round=>
  obtain⟨k,hk,rfl,Ab,Aa⟩:=hrel;obtain⟨bx0,bx1,bx2⟩:=G3 Aa;have hMl:=as7 f k;by_cases hlt:k<L
  .
   obtain⟨b,off,rfl,hc⟩:=hl5 (by omega);have Ah:wr.cell? ⟨b,off+k,none⟩=some (.string ⟨(ls[k]'(by omega)).toArray⟩):=((x8 Aa).cell (bLt w _ (hc k (S (ls[k]'(by omega))) (by simp[hL,hlt])))).trans (hc k _ (by simp[S,hL,hlt]));have hfk:=hf k (ls[k]'(by omega)) (gEl _);obtain⟨sx,hsx,Ac⟩:∃sx:ByteArray,Hid (Value.string sx=S (ls[k]'(by omega)))/\wr.cell? ⟨b,off+k,none⟩=some (.string sx):=⟨⟨(ls[k]'(by omega)).toArray⟩,rfl,Ah⟩;clear hc hl5 Ah;by_cases hkn:(k:Int)<n
   .
    rw[qF hkn]at hfk;have Hf:Hid _:=ag1 hfk;clear hfk hf;go_wp2_with ((at_builtin;refine qx _ rfl (.tmp 125) (.tmp 127) 53 rfl (w.heap.size+1) 9 i0 (.string ⟨#[]⟩) 1 16 underlying53 hi hz0 hz1 hz2 rfl (by decide) _ _ _ rfl (Ab.alloc _) ⟨wr.heap.size,0,none⟩ 1 1 [.string sx] rfl rfl ?c1 ?c2 ?c3 ?c4 ?c5 ?_))
    case c1=>
     intro j u hj
     match j,hj with
     | 0,hj=>simp at hj;subst hj;simp[Addr.add]
    case c2=>intro u hu;simp at hu;subst hu;rfl
    case c3=>unfold maxLen;omega
    case c4=>omega
    case c5=>have:=Aa.size;simp at this;simp;omega
    . intro v' w1 Ag Af _;have R:Hid _:=O6 Ab Aa hsx.out Ag Af;clear Ag Af Ab Aa Ac bx0 bx1 bx2;go_wp2_with fail;go_roundw
      case rel=>exact⟨k+1,by omega,by go_num,by rw[Hf.out];exact R.out.1,R.out.2⟩
      case measure=>simp[intOf];omega
   . rw[qA hkn]at hfk;have Hf:Hid _:=aC8 hfk;have hkb:decide ((k:Int)<n)=false:=qU hkn;clear hfk hf;go_wp2_with fail;go_roundw
     case rel=>exact⟨k+1,by omega,by go_num,by rw[Hf.out];exact Ab,Aa⟩
     case measure=>simp[intOf];omega
  . clear hl5;have hkn:k=L:=by omega
    subst hkn;have HB:Hid _:=x8 Aa;clear Aa;go_wp2_with fail;go_ret;exact⟨_,rfl,Ab,HB.out⟩
theorem bM3(al:Option Addr)(cl:Nat)(word:List UInt8)(n:Int)(ls:List (List UInt8))(w:World)(hl:Reads w (.slice al ls.length cl) ls.length (ls.map S))(hLm:ls.length<=900000)(hsz:∀s∈ls,s.length<=900000)(f:Nat->Option (List UInt8))(hn1:1<=n)(hn2:n<=1000)(hf:∀i s,ls[i]? = some s->f i=if (ls.length:Int)-n<=(i:Int) then some s else none):
 Calls prog 85 #[.agg #[.int .i64 10,.string ⟨word.toArray⟩,.int .i64 n],.slice al ls.length cl] w fun e w'=>∃r,e=.returned r/\w'.ownsRow (w.heap.size+1) 9 1 r (M f ls.length).length ((M f ls.length).map S)/\Bq w w':=by
 obtain⟨i0,hi,hz0,hz1,hz2⟩:=info_parts N6;have Hl:Hid _:=hl;obtain⟨-,al',cl',e4,-,-,hl5⟩:=hl;simp only[xZ,true_and]at e4;obtain⟨rfl,rfl⟩:=e4;generalize hL:ls.length=L at *;go_enter Tryz.func85,Tryz.ntmps85;go_wp2_with fail
 go_loopw [5,16] (fun v5 i wr=>∃k:Nat,k<=L/\i=.int .i64 k/\wr.ownsRow (w.heap.size+1) 9 1 v5 (M f k).length ((M f k).map S)/\Below (w.heap.size+1) (w.alloc (.cells #[.int .i64 10,.string ⟨word.toArray⟩,.int .i64 n] 70)) wr)
  (fun _ i _=>L-(intOf i).toNat)
 case atStart=>exact⟨0,qP _,rfl,by rw[ag0];exact World.ownsRow_nil _ _ _ _,qI _ _⟩
 case round=>
  obtain⟨k,hk,rfl,Ab,Aa⟩:=hrel;obtain⟨bx0,bx1,bx2⟩:=G3 Aa;have hMl:=as7 f k;by_cases hlt:k<L
  .
   obtain⟨b,off,rfl,hc⟩:=hl5 (by omega);have Ah:wr.cell? ⟨b,off+k,none⟩=some (.string ⟨(ls[k]'(by omega)).toArray⟩):=((x8 Aa).cell (bLt w _ (hc k (S (ls[k]'(by omega))) (by simp[hL,hlt])))).trans (hc k _ (by simp[S,hL,hlt]));have hfk:=hf k (ls[k]'(by omega)) (gEl _);obtain⟨sx,hsx,Ac⟩:∃sx:ByteArray,Hid (Value.string sx=S (ls[k]'(by omega)))/\wr.cell? ⟨b,off+k,none⟩=some (.string sx):=⟨⟨(ls[k]'(by omega)).toArray⟩,rfl,Ah⟩;clear hc hl5 Ah;by_cases hkn:(L:Int)-n<=(k:Int)
   .
    rw[qF hkn]at hfk;have Hf:Hid _:=ag1 hfk;skip;clear hfk hf;go_wp2_with ((at_builtin;refine qx _ rfl (.tmp 125) (.tmp 127) 53 rfl (w.heap.size+1) 9 i0 (.string ⟨#[]⟩) 1 16 underlying53 hi hz0 hz1 hz2 rfl (by decide) _ _ _ rfl (Ab.alloc _) ⟨wr.heap.size,0,none⟩ 1 1 [.string sx] rfl rfl ?c1 ?c2 ?c3 ?c4 ?c5 ?_))
    case c1=>
     intro j u hj
     match j,hj with
     | 0,hj=>simp at hj;subst hj;simp[Addr.add]
    case c2=>intro u hu;simp at hu;subst hu;rfl
    case c3=>unfold maxLen;omega
    case c4=>omega
    case c5=>have:=Aa.size;simp at this;simp;omega
    . intro v' w1 Ag Af _;have R:Hid _:=O6 Ab Aa hsx.out Ag Af;clear Ag Af Ab Aa Ac bx0 bx1 bx2;go_wp2_with fail;go_roundw
      case rel=>exact⟨k+1,by omega,by go_num,by rw[Hf.out];exact R.out.1,R.out.2⟩
      case measure=>simp[intOf];omega
   . rw[qA hkn]at hfk;have Hf:Hid _:=aC8 hfk;have hkb:decide ((L:Int)-n<=(k:Int))=false:=qU hkn;clear hfk hf;go_wp2_with fail;go_roundw
     case rel=>exact⟨k+1,by omega,by go_num,by rw[Hf.out];exact Ab,Aa⟩
     case measure=>simp[intOf];omega
  . clear hl5;have hkn:k=L:=by omega
    subst hkn;have HB:Hid _:=x8 Aa;clear Aa;go_wp2_with fail;go_ret;exact⟨_,rfl,Ab,HB.out⟩
theorem bM4(al:Option Addr)(cl:Nat)(word:List UInt8)(n:Int)(ls:List (List UInt8))(w:World)(hl:Reads w (.slice al ls.length cl) ls.length (ls.map S))(hLm:ls.length<=900000)(hsz:∀s∈ls,s.length<=900000)(f:Nat->Option (List UInt8))(hsh:w.ShapedOpen prog)(hf:∀i s,ls[i]? = some s->f i=if Lib.contains s word=true then some s else none):
 Calls prog 85 #[.agg #[.int .i64 1,.string ⟨word.toArray⟩,.int .i64 n],.slice al ls.length cl] w fun e w'=>∃r,e=.returned r/\w'.ownsRow (w.heap.size+1) 9 1 r (M f ls.length).length ((M f ls.length).map S)/\Bq w w':=by
 obtain⟨i0,hi,hz0,hz1,hz2⟩:=info_parts N6;have Hl:Hid _:=hl;obtain⟨-,al',cl',e4,-,-,hl5⟩:=hl;simp only[xZ,true_and]at e4;obtain⟨rfl,rfl⟩:=e4;generalize hL:ls.length=L at *;go_enter Tryz.func85,Tryz.ntmps85;go_wp2_with fail
 go_loopw [5,16] (fun v5 i wr=>∃k:Nat,k<=L/\i=.int .i64 k/\wr.ownsRow (w.heap.size+1) 9 1 v5 (M f k).length ((M f k).map S)/\Below (w.heap.size+1) (w.alloc (.cells #[.int .i64 1,.string ⟨word.toArray⟩,.int .i64 n] 70)) wr)
  (fun _ i _=>L-(intOf i).toNat)
 case atStart=>exact⟨0,qP _,rfl,by rw[ag0];exact World.ownsRow_nil _ _ _ _,qI _ _⟩
 case round=>
  obtain⟨k,hk,rfl,Ab,Aa⟩:=hrel;obtain⟨bx0,bx1,bx2⟩:=G3 Aa;have hMl:=as7 f k;by_cases hlt:k<L
  .
   obtain⟨b,off,rfl,hc⟩:=hl5 (by omega);have Ah:wr.cell? ⟨b,off+k,none⟩=some (.string ⟨(ls[k]'(by omega)).toArray⟩):=((x8 Aa).cell (bLt w _ (hc k (S (ls[k]'(by omega))) (by simp[hL,hlt])))).trans (hc k _ (by simp[S,hL,hlt]));have hfk:=hf k (ls[k]'(by omega)) (gEl _);have Kw:=aX2 hsh (x8 Aa);have Ii:=hsz (ls[k]'(by omega)) (zH _);obtain⟨sx,hsx,Ac⟩:∃sx:ByteArray,Hid (Value.string sx=S (ls[k]'(by omega)))/\wr.cell? ⟨b,off+k,none⟩=some (.string sx):=⟨⟨(ls[k]'(by omega)).toArray⟩,rfl,Ah⟩;clear hc hl5 Ah;by_cases hkn:Lib.contains (ls[k]'(by omega)) word=true
   .
    rw[qF hkn]at hfk;have Hf:Hid _:=ag1 hfk;have hct:Lib.contains sx.data.toList word=true:=by rw[ae2 hsx.out];simpa using hkn
    have Ij:sx.size<4294967281:=by rw[ae3 hsx.out];omega
    clear hfk hf Ii hsz;go_wp2_with (first|(go_at_call 135;refine (Tryz.strings_Contains_shaped sx _ _ Kw Ij).mono ?_;rintro e w9⟨rfl,hw9⟩;obtain rfl:wr=w9:=hw9.symm)|(at_builtin;refine qx _ rfl (.tmp 125) (.tmp 127) 53 rfl (w.heap.size+1) 9 i0 (.string ⟨#[]⟩) 1 16 underlying53 hi hz0 hz1 hz2 rfl (by decide) _ _ _ rfl (Ab.alloc _) ⟨wr.heap.size,0,none⟩ 1 1 [.string sx] rfl rfl ?c1 ?c2 ?c3 ?c4 ?c5 ?_))
    case c1=>
     intro j u hj
     match j,hj with
     | 0,hj=>simp at hj;subst hj;simp[Addr.add]
    case c2=>intro u hu;simp at hu;subst hu;rfl
    case c3=>unfold maxLen;omega
    case c4=>omega
    case c5=>have:=Aa.size;simp at this;simp;omega
    . intro v' w1 Ag Af _;have R:Hid _:=O6 Ab Aa hsx.out Ag Af;clear Ag Af Ab Aa Ac bx0 bx1 bx2;go_wp2_with fail;go_roundw
      case rel=>exact⟨k+1,by omega,by go_num,by rw[Hf.out];exact R.out.1,R.out.2⟩
      case measure=>simp[intOf];omega
   .
    rw[qA hkn]at hfk;have Hf:Hid _:=aC8 hfk;have hct:Lib.contains sx.data.toList word=false:=by rw[ae2 hsx.out];simpa using hkn
    have Ij:sx.size<4294967281:=by rw[ae3 hsx.out];omega
    clear hfk hf Ii hsz;go_wp2_with (go_at_call 135;refine (Tryz.strings_Contains_shaped sx _ _ Kw Ij).mono ?_;rintro e w9⟨rfl,hw9⟩;obtain rfl:wr=w9:=hw9.symm)
    go_roundw
    case rel=>exact⟨k+1,by omega,by go_num,by rw[Hf.out];exact Ab,Aa⟩
    case measure=>simp[intOf];omega
  . clear hl5;have hkn:k=L:=by omega
    subst hkn;have HB:Hid _:=x8 Aa;clear Aa;go_wp2_with fail;go_ret;exact⟨_,rfl,Ab,HB.out⟩
theorem bM5(al:Option Addr)(cl:Nat)(word:List UInt8)(n:Int)(ls:List (List UInt8))(w:World)(hl:Reads w (.slice al ls.length cl) ls.length (ls.map S))(hLm:ls.length<=900000)(hsz:∀s∈ls,s.length<=900000)(f:Nat->Option (List UInt8))(hsh:w.ShapedOpen prog)(hf:∀i s,ls[i]? = some s->f i=if ¬Lib.contains s word=true then some s else none):
 Calls prog 85 #[.agg #[.int .i64 2,.string ⟨word.toArray⟩,.int .i64 n],.slice al ls.length cl] w fun e w'=>∃r,e=.returned r/\w'.ownsRow (w.heap.size+1) 9 1 r (M f ls.length).length ((M f ls.length).map S)/\Bq w w':=by
 obtain⟨i0,hi,hz0,hz1,hz2⟩:=info_parts N6;have Hl:Hid _:=hl;obtain⟨-,al',cl',e4,-,-,hl5⟩:=hl;simp only[xZ,true_and]at e4;obtain⟨rfl,rfl⟩:=e4;generalize hL:ls.length=L at *;go_enter Tryz.func85,Tryz.ntmps85;go_wp2_with fail
 go_loopw [5,16] (fun v5 i wr=>∃k:Nat,k<=L/\i=.int .i64 k/\wr.ownsRow (w.heap.size+1) 9 1 v5 (M f k).length ((M f k).map S)/\Below (w.heap.size+1) (w.alloc (.cells #[.int .i64 2,.string ⟨word.toArray⟩,.int .i64 n] 70)) wr)
  (fun _ i _=>L-(intOf i).toNat)
 case atStart=>exact⟨0,qP _,rfl,by rw[ag0];exact World.ownsRow_nil _ _ _ _,qI _ _⟩
 case round=>
  obtain⟨k,hk,rfl,Ab,Aa⟩:=hrel;obtain⟨bx0,bx1,bx2⟩:=G3 Aa;have hMl:=as7 f k;by_cases hlt:k<L
  .
   obtain⟨b,off,rfl,hc⟩:=hl5 (by omega);have Ah:wr.cell? ⟨b,off+k,none⟩=some (.string ⟨(ls[k]'(by omega)).toArray⟩):=((x8 Aa).cell (bLt w _ (hc k (S (ls[k]'(by omega))) (by simp[hL,hlt])))).trans (hc k _ (by simp[S,hL,hlt]));have hfk:=hf k (ls[k]'(by omega)) (gEl _);have Kw:=aX2 hsh (x8 Aa);have Ii:=hsz (ls[k]'(by omega)) (zH _);obtain⟨sx,hsx,Ac⟩:∃sx:ByteArray,Hid (Value.string sx=S (ls[k]'(by omega)))/\wr.cell? ⟨b,off+k,none⟩=some (.string sx):=⟨⟨(ls[k]'(by omega)).toArray⟩,rfl,Ah⟩;clear hc hl5 Ah;by_cases hkn:¬Lib.contains (ls[k]'(by omega)) word=true
   .
    rw[qF hkn]at hfk;have Hf:Hid _:=ag1 hfk;have hct:Lib.contains sx.data.toList word=false:=by rw[ae2 hsx.out];simpa using hkn
    have Ij:sx.size<4294967281:=by rw[ae3 hsx.out];omega
    clear hfk hf Ii hsz;go_wp2_with (first|(go_at_call 135;refine (Tryz.strings_Contains_shaped sx _ _ Kw Ij).mono ?_;rintro e w9⟨rfl,hw9⟩;obtain rfl:wr=w9:=hw9.symm)|(at_builtin;refine qx _ rfl (.tmp 125) (.tmp 127) 53 rfl (w.heap.size+1) 9 i0 (.string ⟨#[]⟩) 1 16 underlying53 hi hz0 hz1 hz2 rfl (by decide) _ _ _ rfl (Ab.alloc _) ⟨wr.heap.size,0,none⟩ 1 1 [.string sx] rfl rfl ?c1 ?c2 ?c3 ?c4 ?c5 ?_))
    case c1=>
     intro j u hj
     match j,hj with
     | 0,hj=>simp at hj;subst hj;simp[Addr.add]
    case c2=>intro u hu;simp at hu;subst hu;rfl
    case c3=>unfold maxLen;omega
    case c4=>omega
    case c5=>have:=Aa.size;simp at this;simp;omega
    . intro v' w1 Ag Af _;have R:Hid _:=O6 Ab Aa hsx.out Ag Af;clear Ag Af Ab Aa Ac bx0 bx1 bx2;go_wp2_with fail;go_roundw
      case rel=>exact⟨k+1,by omega,by go_num,by rw[Hf.out];exact R.out.1,R.out.2⟩
      case measure=>simp[intOf];omega
   .
    rw[qA hkn]at hfk;have Hf:Hid _:=aC8 hfk;have hct:Lib.contains sx.data.toList word=true:=by rw[ae2 hsx.out];simpa using hkn
    have Ij:sx.size<4294967281:=by rw[ae3 hsx.out];omega
    clear hfk hf Ii hsz;go_wp2_with (go_at_call 135;refine (Tryz.strings_Contains_shaped sx _ _ Kw Ij).mono ?_;rintro e w9⟨rfl,hw9⟩;obtain rfl:wr=w9:=hw9.symm)
    go_roundw
    case rel=>exact⟨k+1,by omega,by go_num,by rw[Hf.out];exact Ab,Aa⟩
    case measure=>simp[intOf];omega
  . clear hl5;have hkn:k=L:=by omega
    subst hkn;have HB:Hid _:=x8 Aa;clear Aa;go_wp2_with fail;go_ret;exact⟨_,rfl,Ab,HB.out⟩
end Go.Proofs.YtllgglolcgdehaaGreatDoor
