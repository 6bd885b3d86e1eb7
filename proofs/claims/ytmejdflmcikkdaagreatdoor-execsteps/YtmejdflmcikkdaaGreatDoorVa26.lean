/- What the reference's Made does to lines, kind by kind. -/
import Derived.Test.YtmejdflmcikkdaaGreatDoorVAb
import Derived.Test.YtmejdflmcikkdaaGreatDoorVSh
import Derived.Test.YtmejdflmcikkdaaGreatDoorVa00
set_option linter.all false
set_option maxRecDepth 100000
set_option maxHeartbeats 64000000
namespace Go.Proofs.YtmejdflmcikkdaaGreatDoor
open Go.RowKit Go.Gs Tryz
variable {f:Nat->Option qU}{k:Nat}{s l:qU}{w w1:World}{t:TypeId}{o:Obj}{sx:ByteArray}{D:qL}
def M(f:Nat->Option qU)(k:Nat):qL:=(List.range k).filterMap f
theorem ag1(f:Nat->Option qU):M f 0=[]:=rfl
theorem ag2(h:f k=some s):M f (k+1)=M f k++[s]:=by unfold M;rw[List.range_succ,List.filterMap_append];simp[h]
theorem aC3(h:f k=none):M f (k+1)=M f k:=by unfold M;rw[List.range_succ,List.filterMap_append];simp[h]
theorem as6(f:Nat->Option qU)(k:Nat):(M f k).length<=k:=by have:=List.length_filterMap_le f (List.range k);simpa[M]using this
theorem F9{a b c:Value}(h:Below (w.heap.size+1) (w.alloc (.cells #[a,b,c] t)) w1):
 w1.cell? ⟨w.heap.size,0,none⟩=some a/\w1.cell? ⟨w.heap.size,1,none⟩=some b/\w1.cell? ⟨w.heap.size,2,none⟩=some c:=by
 refine⟨?_,?_,?_⟩
 all_goals
  rw[h.cell (by simp),qY _ _ _ _ _ _ (qJ w _)];rfl
theorem l8(h:Below (w.heap.size+1) (w.alloc o) w1):Bq w w1:=
 ((Below.refl _ w).alloc (qA _) o).trans (h.mono qO)
theorem aV4{w':World}(h:w.ShapedOpen prog)(hb:Bq w w'):w'.ShapedOpen prog:=
 h.keptBut (hb.frame (fun _=>False)) (fun _ hp=>hp.elim)
theorem ae7(h:Value.string sx=S l):sx.data.toList=l:=by unfold S at h;injection h with h;rw[h]
theorem ae8(h:Value.string sx=S l):sx.size=l.length:=by rw[<- ae7 h];exact Array.length_toList.symm
theorem Q8{wr:World}{O:Obj}{v v':Value}(Ab:wr.ownsRow (w.heap.size+1) 9 1 v D.length (D.map S))(Aa:Below (w.heap.size+1) (w.alloc O) wr)(hsx:Value.string sx=S l)
 (Ag:w1.ownsRow (w.heap.size+1) 9 1 v' (D.length+1) (D.map S++[.string sx])) (Am:(wr.alloc o).grownBy w1 v.ownBlock):
 w1.ownsRow (w.heap.size+1) 9 1 v' (D++[l]).length ((D++[l]).map S)/\Below (w.heap.size+1) (w.alloc O) w1:=by
 have hs:w.heap.size+1<=wr.heap.size:=by have:=Aa.size;simpa using this
 refine⟨by simpa[<- hsx]using Ag,?_⟩;exact (Aa.alloc hs o).grown Am (by simp;omega) (fun k hk=>(Ab.lt k hk).1)
theorem bH3(al:Option Addr)(cl:Nat)(word:qU)(n:Int)(ls:qL)(w:World)(hl:Reads w (.slice al ls.length cl) ls.length (ls.map S))(hLm:ls.length<=225000000)(hsz:∀s∈ls,s.length<=225000000)(f:Nat->Option qU)(hf:∀i s,ls[i]?=some s->f i=if (i:Int)<n then some s else none):
 Calls prog 55 #[.agg #[.int .i64 9,.string ⟨word.toArray⟩,.int .i64 n],.slice al ls.length cl] w fun e w'=>∃r,e=.returned r/\w'.ownsRow (w.heap.size+1) 9 1 r (M f ls.length).length ((M f ls.length).map S)/\Bq w w':=by
 obtain⟨i0,hi,hz0,hz1,hz2⟩:=info_parts J9;have Hl:Hid _:=hl;obtain⟨-,al',cl',e4,-,-,hl5⟩:=hl;simp only[xT,true_and]at e4;obtain⟨rfl,rfl⟩:=e4;generalize hL:ls.length=L at *;go_enter func55,ntmps55;go_wp2_with fail
 go_loopw [5,16] (fun v5 i wr=>∃k:Nat,k<=L/\i=.int .i64 k/\wr.ownsRow (w.heap.size+1) 9 1 v5 (M f k).length ((M f k).map S)/\Below (w.heap.size+1) (w.alloc (.cells #[.int .i64 9,.string ⟨word.toArray⟩,.int .i64 n] 54)) wr)
  (fun _ i _=>L-(intOf i).toNat)
 case atStart=>exact⟨0,qM _,rfl,by rw[ag1];exact World.ownsRow_nil _ _ _ _,Below.refl _ _⟩
 case round=>
  obtain⟨k,hk,rfl,Ab,Aa⟩:=hrel;obtain⟨bx0,bx1,bx2⟩:=F9 Aa;have hMl:=as6 f k;by_cases hlt:k<L
  .
   obtain⟨b,off,rfl,hc⟩:=hl5 qO;have Ai:wr.cell? ⟨b,off+k,none⟩=some (.string ⟨(ls[k]'(by omega)).toArray⟩):=((l8 Aa).cell (bLt w _ (hc k (S (ls[k]'(by omega))) (by simp[hL,hlt])))).trans (hc k _ (by simp[S,hL,hlt]));have hfk:=hf k (ls[k]'(by omega)) (gEl _);obtain⟨sx,hsx,Ac⟩:∃sx:ByteArray,Hid (Value.string sx=S (ls[k]'(by omega)))/\wr.cell? ⟨b,off+k,none⟩=some (.string sx):=⟨⟨(ls[k]'(by omega)).toArray⟩,rfl,Ai⟩;clear hc hl5 Ai;by_cases hkn:(k:Int)<n
   .
    rw[qF hkn]at hfk;have Hf:Hid _:=ag2 hfk;clear hfk hf;go_wp2_with ((at_builtin;refine xB _ rfl (.tmp 125) (.tmp 127) 110 rfl (w.heap.size+1) 9 i0 (.string ⟨#[]⟩) 1 16 underlying110 hi hz0 hz1 hz2 rfl (by decide) _ _ _ rfl (Ab.alloc _) ⟨wr.heap.size,0,none⟩ 1 1 [.string sx] rfl rfl ?c1 ?c2 ?c3 ?c4 ?c5 ?_))
    case c1=>
     intro j u hj
     match j,hj with
     | 0,hj=>simp at hj;subst hj;simp[Addr.add]
    case c2=>intro u hu;simp at hu;subst hu;rfl
    case c3=>unfold maxLen;omega
    case c4=>omega
    case c5=>have:=Aa.size;simp at this;simp;omega
    . intro v' w1 Ag Am _;have R:Hid _:=Q8 Ab Aa hsx.out Ag Am;clear Ag Am Ab Aa Ac bx0 bx1 bx2;go_wp2_with fail;go_roundw
      case rel=>exact⟨k+1,qO,by go_num,by rw[Hf.o];exact R.o.1,R.o.2⟩
      case measure=>simp[intOf];omega
   . rw[qB hkn]at hfk;have Hf:Hid _:=aC3 hfk;have hkb:decide ((k:Int)<n)=false:=qG hkn;clear hfk hf;go_wp2_with fail;go_roundw
     case rel=>exact⟨k+1,qO,by go_num,by rw[Hf.o];exact Ab,Aa⟩
     case measure=>simp[intOf];omega
  . clear hl5;have hkn:k=L:=qO;subst hkn;have HB:Hid _:=l8 Aa;clear Aa;go_wp2_with fail;go_ret;exact⟨_,rfl,Ab,HB.o⟩
theorem bH4(al:Option Addr)(cl:Nat)(word:qU)(n:Int)(ls:qL)(w:World)(hl:Reads w (.slice al ls.length cl) ls.length (ls.map S))(hLm:ls.length<=225000000)(hsz:∀s∈ls,s.length<=225000000)(f:Nat->Option qU)(hn1:1<=n)(hn2:n<=1000)(hf:∀i s,ls[i]?=some s->f i=if (ls.length:Int)-n<=(i:Int) then some s else none):
 Calls prog 55 #[.agg #[.int .i64 10,.string ⟨word.toArray⟩,.int .i64 n],.slice al ls.length cl] w fun e w'=>∃r,e=.returned r/\w'.ownsRow (w.heap.size+1) 9 1 r (M f ls.length).length ((M f ls.length).map S)/\Bq w w':=by
 obtain⟨i0,hi,hz0,hz1,hz2⟩:=info_parts J9;have Hl:Hid _:=hl;obtain⟨-,al',cl',e4,-,-,hl5⟩:=hl;simp only[xT,true_and]at e4;obtain⟨rfl,rfl⟩:=e4;generalize hL:ls.length=L at *;go_enter func55,ntmps55;go_wp2_with fail
 go_loopw [5,16] (fun v5 i wr=>∃k:Nat,k<=L/\i=.int .i64 k/\wr.ownsRow (w.heap.size+1) 9 1 v5 (M f k).length ((M f k).map S)/\Below (w.heap.size+1) (w.alloc (.cells #[.int .i64 10,.string ⟨word.toArray⟩,.int .i64 n] 54)) wr)
  (fun _ i _=>L-(intOf i).toNat)
 case atStart=>exact⟨0,qM _,rfl,by rw[ag1];exact World.ownsRow_nil _ _ _ _,Below.refl _ _⟩
 case round=>
  obtain⟨k,hk,rfl,Ab,Aa⟩:=hrel;obtain⟨bx0,bx1,bx2⟩:=F9 Aa;have hMl:=as6 f k;by_cases hlt:k<L
  .
   obtain⟨b,off,rfl,hc⟩:=hl5 qO;have Ai:wr.cell? ⟨b,off+k,none⟩=some (.string ⟨(ls[k]'(by omega)).toArray⟩):=((l8 Aa).cell (bLt w _ (hc k (S (ls[k]'(by omega))) (by simp[hL,hlt])))).trans (hc k _ (by simp[S,hL,hlt]));have hfk:=hf k (ls[k]'(by omega)) (gEl _);obtain⟨sx,hsx,Ac⟩:∃sx:ByteArray,Hid (Value.string sx=S (ls[k]'(by omega)))/\wr.cell? ⟨b,off+k,none⟩=some (.string sx):=⟨⟨(ls[k]'(by omega)).toArray⟩,rfl,Ai⟩;clear hc hl5 Ai;by_cases hkn:(L:Int)-n<=(k:Int)
   .
    rw[qF hkn]at hfk;have Hf:Hid _:=ag2 hfk;skip;clear hfk hf;go_wp2_with ((at_builtin;refine xB _ rfl (.tmp 125) (.tmp 127) 110 rfl (w.heap.size+1) 9 i0 (.string ⟨#[]⟩) 1 16 underlying110 hi hz0 hz1 hz2 rfl (by decide) _ _ _ rfl (Ab.alloc _) ⟨wr.heap.size,0,none⟩ 1 1 [.string sx] rfl rfl ?c1 ?c2 ?c3 ?c4 ?c5 ?_))
    case c1=>
     intro j u hj
     match j,hj with
     | 0,hj=>simp at hj;subst hj;simp[Addr.add]
    case c2=>intro u hu;simp at hu;subst hu;rfl
    case c3=>unfold maxLen;omega
    case c4=>omega
    case c5=>have:=Aa.size;simp at this;simp;omega
    . intro v' w1 Ag Am _;have R:Hid _:=Q8 Ab Aa hsx.out Ag Am;clear Ag Am Ab Aa Ac bx0 bx1 bx2;go_wp2_with fail;go_roundw
      case rel=>exact⟨k+1,qO,by go_num,by rw[Hf.o];exact R.o.1,R.o.2⟩
      case measure=>simp[intOf];omega
   . rw[qB hkn]at hfk;have Hf:Hid _:=aC3 hfk;have hkb:decide ((L:Int)-n<=(k:Int))=false:=qG hkn;clear hfk hf;go_wp2_with fail;go_roundw
     case rel=>exact⟨k+1,qO,by go_num,by rw[Hf.o];exact Ab,Aa⟩
     case measure=>simp[intOf];omega
  . clear hl5;have hkn:k=L:=qO;subst hkn;have HB:Hid _:=l8 Aa;clear Aa;go_wp2_with fail;go_ret;exact⟨_,rfl,Ab,HB.o⟩
theorem bH5(al:Option Addr)(cl:Nat)(word:qU)(n:Int)(ls:qL)(w:World)(hl:Reads w (.slice al ls.length cl) ls.length (ls.map S))(hLm:ls.length<=225000000)(hsz:∀s∈ls,s.length<=225000000)(f:Nat->Option qU)(hsh:w.ShapedOpen prog)(hf:∀i s,ls[i]?=some s->f i=if Lib.contains s word=true then some s else none):
 Calls prog 55 #[.agg #[.int .i64 1,.string ⟨word.toArray⟩,.int .i64 n],.slice al ls.length cl] w fun e w'=>∃r,e=.returned r/\w'.ownsRow (w.heap.size+1) 9 1 r (M f ls.length).length ((M f ls.length).map S)/\Bq w w':=by
 obtain⟨i0,hi,hz0,hz1,hz2⟩:=info_parts J9;have Hl:Hid _:=hl;obtain⟨-,al',cl',e4,-,-,hl5⟩:=hl;simp only[xT,true_and]at e4;obtain⟨rfl,rfl⟩:=e4;generalize hL:ls.length=L at *;go_enter func55,ntmps55;go_wp2_with fail
 go_loopw [5,16] (fun v5 i wr=>∃k:Nat,k<=L/\i=.int .i64 k/\wr.ownsRow (w.heap.size+1) 9 1 v5 (M f k).length ((M f k).map S)/\Below (w.heap.size+1) (w.alloc (.cells #[.int .i64 1,.string ⟨word.toArray⟩,.int .i64 n] 54)) wr)
  (fun _ i _=>L-(intOf i).toNat)
 case atStart=>exact⟨0,qM _,rfl,by rw[ag1];exact World.ownsRow_nil _ _ _ _,Below.refl _ _⟩
 case round=>
  obtain⟨k,hk,rfl,Ab,Aa⟩:=hrel;obtain⟨bx0,bx1,bx2⟩:=F9 Aa;have hMl:=as6 f k;by_cases hlt:k<L
  .
   obtain⟨b,off,rfl,hc⟩:=hl5 qO;have Ai:wr.cell? ⟨b,off+k,none⟩=some (.string ⟨(ls[k]'(by omega)).toArray⟩):=((l8 Aa).cell (bLt w _ (hc k (S (ls[k]'(by omega))) (by simp[hL,hlt])))).trans (hc k _ (by simp[S,hL,hlt]));have hfk:=hf k (ls[k]'(by omega)) (gEl _);have Nq:=aV4 hsh (l8 Aa);have Nr:=hsz (ls[k]'(by omega)) (zZ _);obtain⟨sx,hsx,Ac⟩:∃sx:ByteArray,Hid (Value.string sx=S (ls[k]'(by omega)))/\wr.cell? ⟨b,off+k,none⟩=some (.string sx):=⟨⟨(ls[k]'(by omega)).toArray⟩,rfl,Ai⟩;clear hc hl5 Ai;by_cases hkn:Lib.contains (ls[k]'(by omega)) word=true
   .
    rw[qF hkn]at hfk;have Hf:Hid _:=ag2 hfk;have hct:Lib.contains sx.data.toList word=true:=by rw[ae7 hsx.out];simpa using hkn
    have Jr:sx.size<4294967281:=by rw[ae8 hsx.out];omega
    clear hfk hf Nr hsz;go_wp2_with (first|(go_at_call 86;refine (Tryz.strings_Contains_shaped sx _ _ Nq Jr).mono ?_;rintro e w9⟨rfl,hw9⟩;obtain rfl:wr=w9:=hw9.symm)|(at_builtin;refine xB _ rfl (.tmp 125) (.tmp 127) 110 rfl (w.heap.size+1) 9 i0 (.string ⟨#[]⟩) 1 16 underlying110 hi hz0 hz1 hz2 rfl (by decide) _ _ _ rfl (Ab.alloc _) ⟨wr.heap.size,0,none⟩ 1 1 [.string sx] rfl rfl ?c1 ?c2 ?c3 ?c4 ?c5 ?_))
    case c1=>
     intro j u hj
     match j,hj with
     | 0,hj=>simp at hj;subst hj;simp[Addr.add]
    case c2=>intro u hu;simp at hu;subst hu;rfl
    case c3=>unfold maxLen;omega
    case c4=>omega
    case c5=>have:=Aa.size;simp at this;simp;omega
    . intro v' w1 Ag Am _;have R:Hid _:=Q8 Ab Aa hsx.out Ag Am;clear Ag Am Ab Aa Ac bx0 bx1 bx2;go_wp2_with fail;go_roundw
      case rel=>exact⟨k+1,qO,by go_num,by rw[Hf.o];exact R.o.1,R.o.2⟩
      case measure=>simp[intOf];omega
   .
    rw[qB hkn]at hfk;have Hf:Hid _:=aC3 hfk;have hct:Lib.contains sx.data.toList word=false:=by rw[ae7 hsx.out];simpa using hkn
    have Jr:sx.size<4294967281:=by rw[ae8 hsx.out];omega
    clear hfk hf Nr hsz;go_wp2_with (go_at_call 86;refine (Tryz.strings_Contains_shaped sx _ _ Nq Jr).mono ?_;rintro e w9⟨rfl,hw9⟩;obtain rfl:wr=w9:=hw9.symm)
    go_roundw
    case rel=>exact⟨k+1,qO,by go_num,by rw[Hf.o];exact Ab,Aa⟩
    case measure=>simp[intOf];omega
  . clear hl5;have hkn:k=L:=qO;subst hkn;have HB:Hid _:=l8 Aa;clear Aa;go_wp2_with fail;go_ret;exact⟨_,rfl,Ab,HB.o⟩
theorem bH6(al:Option Addr)(cl:Nat)(word:qU)(n:Int)(ls:qL)(w:World)(hl:Reads w (.slice al ls.length cl) ls.length (ls.map S))(hLm:ls.length<=225000000)(hsz:∀s∈ls,s.length<=225000000)(f:Nat->Option qU)(hsh:w.ShapedOpen prog)(hf:∀i s,ls[i]?=some s->f i=if ¬Lib.contains s word=true then some s else none):
 Calls prog 55 #[.agg #[.int .i64 2,.string ⟨word.toArray⟩,.int .i64 n],.slice al ls.length cl] w fun e w'=>∃r,e=.returned r/\w'.ownsRow (w.heap.size+1) 9 1 r (M f ls.length).length ((M f ls.length).map S)/\Bq w w':=by
 obtain⟨i0,hi,hz0,hz1,hz2⟩:=info_parts J9;have Hl:Hid _:=hl;obtain⟨-,al',cl',e4,-,-,hl5⟩:=hl;simp only[xT,true_and]at e4;obtain⟨rfl,rfl⟩:=e4;generalize hL:ls.length=L at *;go_enter func55,ntmps55;go_wp2_with fail
 go_loopw [5,16] (fun v5 i wr=>∃k:Nat,k<=L/\i=.int .i64 k/\wr.ownsRow (w.heap.size+1) 9 1 v5 (M f k).length ((M f k).map S)/\Below (w.heap.size+1) (w.alloc (.cells #[.int .i64 2,.string ⟨word.toArray⟩,.int .i64 n] 54)) wr)
  (fun _ i _=>L-(intOf i).toNat)
 case atStart=>exact⟨0,qM _,rfl,by rw[ag1];exact World.ownsRow_nil _ _ _ _,Below.refl _ _⟩
 case round=>
  obtain⟨k,hk,rfl,Ab,Aa⟩:=hrel;obtain⟨bx0,bx1,bx2⟩:=F9 Aa;have hMl:=as6 f k;by_cases hlt:k<L
  .
   obtain⟨b,off,rfl,hc⟩:=hl5 qO;have Ai:wr.cell? ⟨b,off+k,none⟩=some (.string ⟨(ls[k]'(by omega)).toArray⟩):=((l8 Aa).cell (bLt w _ (hc k (S (ls[k]'(by omega))) (by simp[hL,hlt])))).trans (hc k _ (by simp[S,hL,hlt]));have hfk:=hf k (ls[k]'(by omega)) (gEl _);have Nq:=aV4 hsh (l8 Aa);have Nr:=hsz (ls[k]'(by omega)) (zZ _);obtain⟨sx,hsx,Ac⟩:∃sx:ByteArray,Hid (Value.string sx=S (ls[k]'(by omega)))/\wr.cell? ⟨b,off+k,none⟩=some (.string sx):=⟨⟨(ls[k]'(by omega)).toArray⟩,rfl,Ai⟩;clear hc hl5 Ai;by_cases hkn:¬Lib.contains (ls[k]'(by omega)) word=true
   .
    rw[qF hkn]at hfk;have Hf:Hid _:=ag2 hfk;have hct:Lib.contains sx.data.toList word=false:=by rw[ae7 hsx.out];simpa using hkn
    have Jr:sx.size<4294967281:=by rw[ae8 hsx.out];omega
    clear hfk hf Nr hsz;go_wp2_with (first|(go_at_call 86;refine (Tryz.strings_Contains_shaped sx _ _ Nq Jr).mono ?_;rintro e w9⟨rfl,hw9⟩;obtain rfl:wr=w9:=hw9.symm)|(at_builtin;refine xB _ rfl (.tmp 125) (.tmp 127) 110 rfl (w.heap.size+1) 9 i0 (.string ⟨#[]⟩) 1 16 underlying110 hi hz0 hz1 hz2 rfl (by decide) _ _ _ rfl (Ab.alloc _) ⟨wr.heap.size,0,none⟩ 1 1 [.string sx] rfl rfl ?c1 ?c2 ?c3 ?c4 ?c5 ?_))
    case c1=>
     intro j u hj
     match j,hj with
     | 0,hj=>simp at hj;subst hj;simp[Addr.add]
    case c2=>intro u hu;simp at hu;subst hu;rfl
    case c3=>unfold maxLen;omega
    case c4=>omega
    case c5=>have:=Aa.size;simp at this;simp;omega
    . intro v' w1 Ag Am _;have R:Hid _:=Q8 Ab Aa hsx.out Ag Am;clear Ag Am Ab Aa Ac bx0 bx1 bx2;go_wp2_with fail;go_roundw
      case rel=>exact⟨k+1,qO,by go_num,by rw[Hf.o];exact R.o.1,R.o.2⟩
      case measure=>simp[intOf];omega
   .
    rw[qB hkn]at hfk;have Hf:Hid _:=aC3 hfk;have hct:Lib.contains sx.data.toList word=true:=by rw[ae7 hsx.out];simpa using hkn
    have Jr:sx.size<4294967281:=by rw[ae8 hsx.out];omega
    clear hfk hf Nr hsz;go_wp2_with (go_at_call 86;refine (Tryz.strings_Contains_shaped sx _ _ Nq Jr).mono ?_;rintro e w9⟨rfl,hw9⟩;obtain rfl:wr=w9:=hw9.symm)
    go_roundw
    case rel=>exact⟨k+1,qO,by go_num,by rw[Hf.o];exact Ab,Aa⟩
    case measure=>simp[intOf];omega
  . clear hl5;have hkn:k=L:=qO;subst hkn;have HB:Hid _:=l8 Aa;clear Aa;go_wp2_with fail;go_ret;exact⟨_,rfl,Ab,HB.o⟩
end Go.Proofs.YtmejdflmcikkdaaGreatDoor
