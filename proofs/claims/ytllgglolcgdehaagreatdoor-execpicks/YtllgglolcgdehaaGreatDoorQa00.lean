/- Plain facts on bytes and lines, and on slices that can be read, and more. -/
import Derived.Test.YtllgglolcgdehaaGreatDoorQAb
import Derived.WalkKit
import Derived.Test.YtllgglolcgdehaaGreatDoorProg
import Derived.WalkLawsBesides
import Derived.Laws.IdiomStrings
import Derived.Outline
import Derived.ChangeAgain
import Derived.Laws.Strings3
import Derived.Lib.SlBytesConst
import Derived.WalkSpells
import Derived.Lib.Split
import Derived.Lib.SplitLaws
import Derived.Lib.ItoaNum
import Derived.Lib.IndexMore
import Derived.Lib.SlicesCompact
import Derived.Lib.AtoiAllCases
import Derived.Lib.Join
import Derived.Deep.Draws
import Derived.Deep.RegionWith
import Derived.Deep.DeepCutAuto
import Derived.Deep.Cut
import Derived.Deep.QuietTactic
import Derived.Deep.RegionLaw
import Derived.BigQuiet
import Derived.Lib.SliceRun
import Derived.Lib.QuietBelow
import Derived.Laws.AppendOwn
import Derived.Laws.OwnMore
import Derived.Laws.CopyRow
import Derived.Deep.Slices
import Derived.Deep.AppendSrc
import Derived.Deep.Upon
import Derived.ProofKit
import Derived.OpenShut
import Derived.SliceStrings
set_option maxRecDepth 100000
set_option maxHeartbeats 16000000
namespace Go.Gs
open Go.RowKit
def U (c:UInt8):Value:=.int .u8 (c.toNat:Int)
def S (l:List UInt8):Value:=.string ⟨l.toArray⟩
def x9 (cur:List UInt8):List UInt8->List (List UInt8)
 | []=>if cur=[] then [] else [cur]
 | c::r=>if c=10 then cur::x9 [] r else x9 (cur++[c]) r
def lines (b:List UInt8):List (List UInt8):=x9 [] b
def ended (l:List (List UInt8)):List UInt8:=(l.map (fun s=>s++[10])).flatten
theorem E4 (s:List UInt8) (l:List (List UInt8)):ended (s::l)=s++[10]++ended l:=by simp[ended]
theorem I1 (a b:List (List UInt8)):ended (a++b)=ended a++ended b:=by simp[ended]
theorem aN6 (r:List UInt8):∀cur,(x9 cur r).length<=r.length+(if cur=[] then 0 else 1):=by
 induction r with
 | nil=>intro cur;unfold x9;split <;> simp_all
 | cons c r ih=>
  intro cur
  unfold x9
  split
  . have:=ih []
    simp only[List.length_cons,if_true] at *
    split <;> omega
  . have:=ih (cur++[c])
    simp only[List.length_cons,List.append_eq_nil_iff,List.cons_ne_nil,and_false,if_false] at *
    split <;> omega
theorem G5 (b:List UInt8):(lines b).length<=b.length:=by have:=aN6 b [];simpa[lines] using this
theorem aN7 (r:List UInt8):∀cur,(10∉cur) -> ∀s∈x9 cur r,(10:UInt8)∉s:=by
 induction r with
 | nil=>intro cur h s hs;unfold x9 at hs;split at hs <;> simp_all
 | cons c r ih=>
  intro cur h s hs
  unfold x9 at hs
  split at hs
  . simp only[List.mem_cons] at hs
    rcases hs with rfl | hs
    . exact h
    . exact ih [] (by simp) s hs
  . exact ih (cur++[c]) (by simp_all [eq_comm]) s hs
theorem G6 (b:List UInt8):∀s∈lines b,(10:UInt8)∉s:=aN7 b [] (by simp)
theorem ay2 (s:List UInt8):∀(cur r:List UInt8),(10:UInt8)∉s->x9 cur (s++10::r)=(cur++s)::x9 [] r:=by
 induction s with
 | nil=>intro cur r _;simp[x9]
 | cons c s ih=>
  intro cur r h
  simp only[List.mem_cons,not_or] at h
  rw[List.cons_append,x9,if_neg (fun e=>h.1 e.symm),ih _ _ h.2]
  simp
theorem J5 (l:List (List UInt8)) (h:∀s∈l,(10:UInt8)∉s):lines (ended l)=l:=by
 induction l with
 | nil=>simp[ended,lines,x9]
 | cons s l ih=>
  have hs:=h s (by simp)
  have:=ih (fun t ht=>h t (by simp[ht]))
  rw[E4,List.append_assoc]
  show x9 [] (s++10::ended l)=_
  rw[ay2 s [] _ hs]
  simpa[lines] using this
theorem bA6 (l:List (List UInt8)) (h:ended l≠[]):(ended l).getLast h=10:=by
 induction l with
 | nil=>exact absurd rfl h
 | cons s l ih=>
  simp only[E4] at h ⊢
  by_cases e:ended l=[]
  . simp[e]
  . rw[List.getLast_append_of_ne_nil _ e];exact ih e
theorem aP1 (r:List UInt8):∀cur,(ended (x9 cur r)).length<=cur.length+r.length+1:=by
 induction r with
 | nil=>intro cur;unfold x9;split <;> simp_all [ended]
 | cons c r ih=>
  intro cur
  unfold x9
  split
  . have:=ih []
    simp only[E4,List.length_append,List.length_cons,List.length_nil] at *
    omega
  . have:=ih (cur++[c])
    simp only[List.length_append,List.length_cons,List.length_nil] at *
    omega
theorem E5 (b:List UInt8):(ended (lines b)).length<=b.length+1:=by have:=aP1 b [];simpa[lines] using this
theorem al0 (l:List (List UInt8)) (i j:Nat):(ended ((l.take j).drop i)).length<=(ended l).length:=by
 have h1:(ended (l.take j)).length<=(ended l).length:=by
  conv=>rhs;rw[<- List.take_append_drop j l,I1]
  simp
 have h2:(ended ((l.take j).drop i)).length<=(ended (l.take j)).length:=by
  conv=>rhs;rw[<- List.take_append_drop i (l.take j),I1]
  simp
 omega
theorem aq5 (l:List (List UInt8)):l.length<=(ended l).length:=by
 induction l with
 | nil=>simp
 | cons s l ih=>rw[E4];simp;omega
theorem _root_.gSm {α:Type _} {l:List α} {i:Nat} {a:α} (h:l[i]? = some a):∃h:i<l.length,l[i]=a:=List.getElem?_eq_some_iff.1 h
theorem _root_.bLt (w:World) (a:Addr) {v:Value} (h:w.cell? a=some v):a.block<w.heap.size:=World.block_lt_of_cell? w a h
theorem _root_.gEl {α:Type _} {l:List α} {i:Nat} (h:i<l.length):l[i]? = some l[i]:=List.getElem?_eq_getElem h
theorem _root_.mGt {α:Type _} {l:List α} {i:Nat} {a:α} (h:l[i]? = some a):a∈l:=List.mem_of_getElem? h
theorem _root_.aSm {α:Type _} {l:Array α} {i:Nat} {a:α} (h:l[i]? = some a):∃h:i<l.size,l[i]=a:=Array.getElem?_eq_some_iff.1 h
def Reads (w:World) (v:Value) (n:Nat) (xs:List Value):Prop:=
 xs.length=n /\ ∃ao cap,v=.slice ao n cap/\n<=cap/\cap<=maxLen /\
  (n≠0 -> ∃b off,ao=some ⟨b,off,none⟩ /\ ∀j u,xs[j]? = some u->w.cell? ⟨b,off+j,none⟩=some u)
theorem Reads.of_owns {w:World} {base:Nat} {e:TypeId} {v:Value} {n:Nat} {xs:List Value} (h:w.ownsRow base e 1 v n xs):Reads w v n xs:=by
 have hl:xs.length=n:=by simpa using h.1
 refine⟨hl,?_⟩;rcases h.2 with ⟨rfl,rfl⟩ | ⟨g,cap,cur,rfl,hb,hg,h1,h2,h3,h4⟩
 . exact⟨none,0,rfl,Nat.le_refl _,by simp,fun h=>absurd rfl h⟩
 . refine⟨_,cap,rfl,h1,h2,fun _=>⟨g,0,rfl,fun j u hu=>?_⟩⟩;have:=h.cells (g:=g) rfl j u hu;have Ee:(⟨g,0,none⟩:Addr).add j=⟨g,0+j,none⟩:=by unfold Addr.add;split <;> simp_all
   rwa [Ee] at this
theorem Reads.below {w w':World} {v:Value} {n:Nat} {xs:List Value} (h:Reads w v n xs) (hb:Bq w w'):Reads w' v n xs:=by obtain⟨h1,ao,cap,rfl,h2,h3,h4⟩:=h;refine⟨h1,ao,cap,rfl,h2,h3,fun hn=>?_⟩;obtain⟨b,off,rfl,hc⟩:=h4 hn;exact⟨b,off,rfl,fun j u hu=>(hb.cell (World.block_lt_of_cell? w _ (hc j u hu))).trans (hc j u hu)⟩
theorem Reads.setCell {w:World} {v:Value} {n:Nat} {xs:List Value} (h:Reads w v n xs) {a:Addr} {old:Value} (ha:w.cell? a=some old) (x:Value) (hne:old∉xs):Reads (w.setCell a x) v n xs:=by
 obtain⟨h1,ao,cap,rfl,h2,h3,h4⟩:=h;refine⟨h1,ao,cap,rfl,h2,h3,fun hn=>?_⟩;obtain⟨b,off,rfl,hc⟩:=h4 hn;refine⟨b,off,rfl,fun j u hu=>?_⟩;have hcu:=hc j u hu;have hd:a≠⟨b,off+j,none⟩:=by
  rintro rfl;rw[hcu] at ha
  cases ha;exact hne (List.mem_of_getElem? hu)
 rw[<- hcu];exact World.cell?_setCell_other _ _ _ _ hd
end Go.Gs
namespace Go.Proofs.YtllgglolcgdehaaGreatDoor
open Go.RowKit Go.Gs
set_option linter.unusedVariables false
theorem aO3:(Tryz.prog.info? 9).map (fun i=>(i.zero,i.size,i.bytes))=some (some (.string ⟨#[]⟩),1,16):=by kernel_rfl
theorem cb8 (ao:Option Addr) (cap:Nat) (w:World) :
 Calls Tryz.prog 147 #[.slice ao 0 cap] w fun e w'=>e=.returned (.slice none 0 0)/\w'=w:=by
 go_enter Tryz.func147,Tryz.ntmps147;go_wp2;go_loopw [3,4,9] (fun v4 s i wr=>v4=.slice none 0 0/\s=.int .i64 0/\i=.int .i64 0/\wr=w) (fun _ _ _ _=>0)
 case atStart=>exact⟨rfl,rfl,rfl,rfl⟩
 case round=>obtain⟨rfl,rfl,rfl,rfl⟩:=hrel;go_wp2;go_ret;exact⟨rfl,rfl⟩
theorem bA7 (bs:List UInt8) (k st:Nat) (D:List (List UInt8)) (h:k<bs.length) (hst:st<=k) (he:D++x9 ((bs.take k).drop st) (bs.drop k)=lines bs) :
 (bs[k]=10->(D++[(bs.take k).drop st])++x9 ((bs.take (k+1)).drop (k+1)) (bs.drop (k+1))=lines bs) /\
 (bs[k]≠10->D++x9 ((bs.take (k+1)).drop st) (bs.drop (k+1))=lines bs):=by
 have hd:bs.drop k=bs[k]::bs.drop (k+1):=(List.drop_eq_getElem_cons h);rw[hd,x9] at he;constructor
 . intro e;rw[if_pos e] at he;rw[<- he];simp
 . intro e;rw[if_neg e] at he;rw[<- he,List.take_succ_eq_append_getElem h,List.drop_append_of_le_length (by simp;omega)]
theorem bN0 (bs:List UInt8) (st:Nat) (D:List (List UInt8)) (he:D++x9 ((bs.take bs.length).drop st) (bs.drop bs.length)=lines bs) :
 (st<bs.length->D++[bs.drop st]=lines bs)/\(¬st<bs.length->D=lines bs):=by
 simp only[List.take_length,List.drop_length] at he;unfold x9 at he;constructor
 . intro h;rw[if_neg (by simp;omega)] at he;exact he
 . intro h;rw[if_pos (by simp;omega)] at he;simpa using he
theorem aP2 (w:World) (b off st en cap:Nat) (bs:List UInt8) (hse:st<=en) (hen:en<=bs.length)
 (hc:∀j u,(bs.map U)[j]? = some u->w.cell? ⟨b,off+j,none⟩=some u) :
 (convert 28 9 (.slice (some ⟨b,off+st,none⟩) (en-st) cap)).run Tryz.prog w=.ok (S ((bs.take en).drop st)) w:=by
 have hl:((bs.take en).drop st).length=en-st:=by simp;omega
 have:=run_convert_bytes_back (P:=Tryz.prog) w 28 9 5 ⟨b,off+st,none⟩ cap ((bs.take en).drop st) Tryz.underlying28 Tryz.underlying5 Tryz.underlying9 (fun j hj=>by
  have Ee:(⟨b,off+st,none⟩:Addr).add j=⟨b,off+(st+j),none⟩:=by unfold Addr.add;split <;> simp_all [Nat.add_assoc]
  rw[Ee]
  have hj':st+j<bs.length:=by omega
  rw[hc (st+j) (U bs[st+j]) (by simp[hj'])]
  simp[U])
 rw[hl] at this;exact this
theorem bK6 {w wr w1:World} {v v':Value} {D:List (List UInt8)} {l:List UInt8} {sx:ByteArray} {o:Obj} (Ab:wr.ownsRow w.heap.size 9 1 v D.length (D.map S)) (Aa:Bq w wr) (hsx:Value.string sx=S l)
 (Bg:w1.ownsRow w.heap.size 9 1 v' (D.length+1) (D.map S++[.string sx])) (Eb:(wr.alloc o).grownBy w1 v.ownBlock) :
 w1.ownsRow w.heap.size 9 1 v' (D++[l]).length ((D++[l]).map S)/\Bq w w1:=by refine⟨by simpa[<- hsx] using Bg,?_⟩;exact (Aa.alloc (by have:=Aa.size;omega) o).grown Eb (by have:=Aa.size;simp;omega) (fun k hk=>(Ab.lt k hk).1)
theorem cb9 (b off cap:Nat) (bs:List UInt8) (w:World) (h0:0<bs.length) (hle:bs.length<=1000000) (hcap:bs.length<=cap) (hcm:cap<=9223372036854775807)
 (hc:∀j u,(bs.map U)[j]? = some u->w.cell? ⟨b,off+j,none⟩=some u) :
 Calls Tryz.prog 147 #[.slice (some ⟨b,off,none⟩) bs.length cap] w fun e w'=>∃r,e=.returned r /\
  w'.ownsRow w.heap.size 9 1 r (lines bs).length ((lines bs).map S)/\Bq w w':=by
 obtain⟨i0,hi,hz0,hz1,hz2⟩:=info_parts aO3;have hbB:b<w.heap.size:=bLt w _ (hc 0 (U bs[0]) (by simp[h0]));generalize hn:bs.length=n at *;go_enter Tryz.func147,Tryz.ntmps147;go_wp2
 go_loopw [3,4,9] (fun v4 s i wr=>∃(k st:Nat) (D:List (List UInt8)),st<=k/\k<=n/\i=.int .i64 k/\s=.int .i64 st/\wr.ownsRow w.heap.size 9 1 v4 D.length (D.map S)/\Bq w wr/\D.length<=k/\Hid (D++x9 ((bs.take k).drop st) (bs.drop k)=lines bs))
  (fun _ _ i _=>n-(intOf i).toNat)
 case atStart=>exact⟨0,0,[],Nat.le_refl _,Nat.zero_le _,rfl,rfl,World.ownsRow_nil _ _ _ _,Below.refl _ _,Nat.le_refl _,by simp[Hid,lines]⟩
 case round=>
  obtain⟨k,st,D,hsk,hk,rfl,rfl,Ab,Aa,hDk,Ec⟩:=hrel;have hcr:∀j u,(bs.map U)[j]? = some u->wr.cell? ⟨b,off+j,none⟩=some u:=fun j u hu=>(Aa.cell (by exact hbB)).trans (hc j u hu);by_cases hlt:k<n
  .
   have Ac:wr.cell? ⟨b,off+k,none⟩=some (.int .u8 ((bs[k]'(by omega)).toNat:Int)):=hcr k _ (by simp[U,hn,hlt]);have Au:=bA7 bs k st D (by omega) hsk Ec.out;have Jr:Hid _:=Au;clear Au
   obtain⟨sx,hsx,Js⟩:∃sx,Hid (Value.string sx=S ((bs.take k).drop st))/\(convert 28 9 (.slice (some ⟨b,off+st,none⟩) (k-st) (cap-st))).run Tryz.prog wr=.ok (.string sx) wr:=
    ⟨_,rfl,aP2 wr b off st k (cap-st) bs hsk (by omega) hcr⟩
   clear hcr hc Ec;by_cases Gj:bs[k]'(by omega)=10
   .
    have Iu:wr.cell? ⟨b,off+k,none⟩=some (.int .u8 10):=by rw[Ac,Gj];rfl
    have Hr:Hid _:=(Jr.out).1 Gj;clear Ac Jr Gj;go_wp2_with (at_builtin;refine wpList_append_own _ rfl _ _ 53 rfl w.heap.size 9 i0 (.string ⟨#[]⟩) 1 16 Tryz.underlying53 hi hz0 hz1 hz2 rfl (by decide) _ _ _ rfl (Ab.alloc _) ⟨wr.heap.size,0,none⟩ 1 1 [.string sx] rfl rfl ?c1 ?c2 ?c3 ?c4 ?c5 ?_)
    case c1=>
     intro j u hj
     match j,hj with
     | 0,hj=>simp at hj;subst hj;simp[Addr.add]
    case c2=>intro u hu;simp at hu;subst hu;rfl
    case c3=>unfold maxLen;omega
    case c4=>omega
    case c5=>have:=Aa.size;simp;omega
    . intro v' w1 Bg Eb _;have R:=bK6 Ab Aa hsx.out Bg Eb;clear Bg Eb Ab Aa hsx Js Iu;go_wp2;go_roundw
      case rel=>exact⟨k+1,k+1,D++[(bs.take k).drop st],Nat.le_refl _,by omega,by go_num,by go_num,R.1,R.2,by simp;omega,Hr.out⟩
      case measure=>simp[intOf];omega
   . have hne:(((bs[k]'(by omega)).toNat:Int) == 10)=false:=by rw[beq_eq_false_iff_ne];intro e;exact Gj (UInt8.toNat_inj.1 (show _=10 by omega))
     have Hr:Hid _:=(Jr.out).2 Gj;clear Jr Gj Js hsx;go_wp2;go_roundw
     case rel=>exact⟨k+1,st,D,by omega,by omega,by go_num,rfl,Ab,Aa,by omega,Hr.out⟩
     case measure=>simp[intOf];omega
  .
   have hkn:k=n:=by omega
   subst hkn;subst hn;have He:Hid _:=bN0 bs st D Ec.out;clear Ec hc;by_cases hst:st<bs.length
   .
    obtain⟨sx,hsx,Js⟩:∃sx,Hid (Value.string sx=S (bs.drop st))/\(convert 28 9 (.slice (some ⟨b,off+st,none⟩) (bs.length-st) (cap-st))).run Tryz.prog wr=.ok (.string sx) wr:=
     ⟨_,rfl,by have:=aP2 wr b off st bs.length (cap-st) bs (by omega) (Nat.le_refl _) hcr;rwa [List.take_length] at this⟩
    have Hr:Hid _:=(He.out).1 hst;clear hcr He;go_wp2_with (at_builtin;refine wpList_append_own _ rfl _ _ 53 rfl w.heap.size 9 i0 (.string ⟨#[]⟩) 1 16 Tryz.underlying53 hi hz0 hz1 hz2 rfl (by decide) _ _ _ rfl (Ab.alloc _) ⟨wr.heap.size,0,none⟩ 1 1 [.string sx] rfl rfl ?d1 ?d2 ?d3 ?d4 ?d5 ?_)
    case d1=>
     intro j u hj
     match j,hj with
     | 0,hj=>simp at hj;subst hj;simp[Addr.add]
    case d2=>intro u hu;simp at hu;subst hu;rfl
    case d3=>unfold maxLen;omega
    case d4=>omega
    case d5=>have:=Aa.size;simp;omega
    . intro v' w1 Bg Eb _;have R:=bK6 Ab Aa hsx.out Bg Eb;clear Bg Eb Ab Aa hsx Js;go_wp2;go_ret;rw[Hr.out] at R;exact⟨v',rfl,R.1,R.2⟩
   . have Hr:Hid _:=(He.out).2 hst;clear hcr He;go_wp2;go_ret;rw[Hr.out] at Ab;exact⟨_,rfl,Ab,Aa⟩
theorem aw4 (v:Value) (bs:List UInt8) (w:World) (hr:Reads w v bs.length (bs.map U)) (hle:bs.length<=1000000) :
 Calls Tryz.prog 147 #[v] w fun e w'=>∃r,e=.returned r /\
  w'.ownsRow w.heap.size 9 1 r (lines bs).length ((lines bs).map S)/\Bq w w':=by
 obtain⟨_,ao,cap,rfl,h2,h3,h4⟩:=hr;by_cases h0:bs.length=0
 . have hb:bs=[]:=List.eq_nil_of_length_eq_zero h0;subst hb;refine (cb8 ao cap w).mono ?_;rintro e w' ⟨rfl,rfl⟩;exact⟨_,rfl,by simpa[lines,x9] using World.ownsRow_nil _ _ _ _,Below.refl _ _⟩
 . obtain⟨b,off,rfl,hc⟩:=h4 h0;exact cb9 b off cap bs w (by omega) hle h2 (by simpa[maxLen] using h3) hc
theorem aG5 {w:World} {g n cap lo hi:Nat} {xs:List Value} (h:Reads w (.slice (some ⟨g,0,none⟩) n cap) n xs) (h1:lo<=hi) (h2:hi<=n) :
 Reads w (.slice (some ⟨g,lo,none⟩) (hi-lo) (cap-lo)) (hi-lo) ((xs.take hi).drop lo):=by
 obtain⟨hl,ao,cap',e,h3,h4,h5⟩:=h;simp only[Value.slice.injEq,true_and] at e;obtain⟨rfl,rfl⟩:=e;refine⟨by simp;omega,_,_,rfl,by omega,by omega,fun hn=>?_⟩;obtain⟨b,off,e,hc⟩:=h5 (by omega);simp only[Option.some.injEq,Addr.mk.injEq,and_true] at e;obtain⟨rfl,rfl⟩:=e;refine⟨g,lo,rfl,fun j u hu=>?_⟩;rw[List.getElem?_drop,List.getElem?_take] at hu;split at hu
 . have:=hc _ _ hu;rwa [Nat.zero_add] at this
 . cases hu
theorem I8 {w w':World} {base:Nat} {e:TypeId} {size:Nat} {v:Value} {n:Nat} {xs:List Value} (h:w.ownsRow base e size v n xs) (hb:Bq w w'):w'.ownsRow base e size v n xs:=
 h.kept (row:=none) ⟨hb.os,hb.tape,hb.output,hb.size,fun k hk _=>hb.block k hk⟩ (by cases hv:v.ownBlock <;> simp)
theorem aG6 (w:World) (C:Array Value) (e:TypeId) (fr:Nat × Nat) (n:Nat) (hn:C.size=n) (hm:n<=1000000):Reads (w.alloc (.cells C e fr)) (.slice (some ⟨w.heap.size,0,none⟩) n n) n C.toList:=by refine⟨by simpa using hn,_,n,rfl,Nat.le_refl _,by unfold maxLen;omega,fun _=>⟨w.heap.size,0,rfl,fun j u hu=>?_⟩⟩;rw[cell_of_row _ _ _ _ _ _ (heap_alloc_new w _)];simpa using hu
theorem bA8 {w:World} {b off n cap:Nat} {bs:List UInt8} (h:Reads w (.slice (some ⟨b,off,none⟩) n cap) n (bs.map U)) (hn:n≠0) :
 (convert 28 9 (.slice (some ⟨b,off,none⟩) n cap)).run Tryz.prog w=.ok (.string ⟨bs.toArray⟩) w:=by
 obtain⟨hl,ao,cap',e,_,_,h4⟩:=h;simp only[Value.slice.injEq,true_and] at e;obtain⟨rfl,rfl⟩:=e;obtain⟨b',off',e,hc⟩:=h4 hn;simp only[Option.some.injEq,Addr.mk.injEq,and_true] at e;obtain⟨rfl,rfl⟩:=e;have hl':bs.length=n:=by simpa using hl
 have:=aP2 w b off 0 n cap bs (Nat.zero_le _) (by omega) hc;simpa[<- hl',S] using this
theorem ag0 {w:World} {v:Value} {bs:List UInt8} (h:Reads w v bs.length (bs.map U)) :
 (convert 28 9 v).run Tryz.prog w=.ok (.string ⟨bs.toArray⟩) w:=by
 obtain⟨hl,ao,cap,rfl,h2,h3,h4⟩:=h;by_cases h0:bs.length=0
 .
  have hb:bs=[]:=List.eq_nil_of_length_eq_zero h0;subst hb
  cases ao with
  | none=>exact run_convert_bytes_nil (P:=Tryz.prog) w 28 5 Tryz.underlying28 Tryz.underlying5 _ _ 9 Tryz.underlying9
  | some a=>exact run_convert_bytes_back (P:=Tryz.prog) w 28 9 5 a cap [] Tryz.underlying28 Tryz.underlying5 Tryz.underlying9 (fun j hj=>absurd hj (Nat.not_lt_zero _))
 . obtain⟨b,off,rfl,hc⟩:=h4 h0;exact bA8 ⟨hl,_,cap,rfl,h2,h3,fun _=>⟨b,off,rfl,hc⟩⟩ h0
theorem bA9 {w:World} {g n cap m:Nat} {xs:List Value} (h:Reads w (.slice (some ⟨g,0,none⟩) n cap) n xs) (h1:m<=n):Reads w (.slice (some ⟨g,0,none⟩) m cap) m (xs.take m):=by have:=aG5 h (Nat.zero_le m) h1;simpa using this
theorem aw5 {α:Type} {pss:List (List α)} {k:Nat} {p:List α} (h:pss[k]? = some p):(pss.take (k+1)).flatten=(pss.take k).flatten++p:=by rw[List.take_add_one,h];simp
theorem cn6 {α:Type} (pss:List (List α)) (k:Nat):((pss.take k).flatten).length<=(pss.flatten).length:=by
 conv=>rhs;rw[<- List.take_append_drop k pss,List.flatten_append]
 simp
def RList {α:Type} (w:World) (v:Value) (f:α->Value) (pss:List (List α)):Prop:=
 ∃us:List Value,Reads w v pss.length us /\ ∀(j:Nat) (p:List α),pss[j]? = some p -> ∃u,us[j]? = some u/\Reads w u p.length (p.map f)
theorem RList.below {α:Type} {w w':World} {v:Value} {f:α->Value} {pss:List (List α)} (h:RList w v f pss) (hb:Bq w w'):RList w' v f pss:=by obtain⟨us,h1,h2⟩:=h;refine⟨us,h1.below hb,fun j p hj=>?_⟩;obtain⟨u,h3,h4⟩:=h2 j p hj;exact⟨u,h3,h4.below hb⟩
theorem RList.shape {α:Type} {w:World} {v:Value} {f:α->Value} {pss:List (List α)} (h:RList w v f pss):∃ao cap,v=.slice ao pss.length cap/\pss.length<=cap/\cap<=maxLen:=by obtain⟨us,⟨_,ao,cap,h2,h3,h4,_⟩,_⟩:=h;exact⟨ao,cap,h2,h3,h4⟩
theorem RList.at {α:Type} {w:World} {ao:Option Addr} {n cap:Nat} {f:α->Value} {pss:List (List α)} (h:RList w (.slice ao n cap) f pss) {k:Nat} {p:List α} (hk:pss[k]? = some p) :
 ∃b off au cu,ao=some ⟨b,off,none⟩/\w.cell? ⟨b,off+k,none⟩=some (.slice au p.length cu)/\Reads w (.slice au p.length cu) p.length (p.map f):=by obtain⟨us,⟨h1,ao',cap',e,_,_,h5⟩,h2⟩:=h;injection e with e1 e2 e3;subst e1;obtain⟨u,hu,hr⟩:=h2 k p hk;obtain⟨hkl,_⟩:=gSm hk;obtain⟨b,off,hao,hc⟩:=h5 (by omega);obtain⟨hl,au,cu,rfl,hr'⟩:=hr;exact⟨b,off,au,cu,hao,hc k _ hu,hl,au,cu,rfl,hr'⟩
theorem L9 {α:Type} {pss:List (List α)} {p:List α} (h:p∈pss):p.length<=pss.flatten.length:=by obtain⟨s,t,rfl⟩:=List.append_of_mem h;simp;omega
theorem az9 {α:Type} {pss:List (List α)} {k:Nat} {p:List α} (h:pss[k]? = some p):((pss.take k).flatten).length+p.length<=pss.flatten.length:=by have:=cn6 pss (k+1);rw[aw5 h,List.length_append] at this;exact this
end Go.Proofs.YtllgglolcgdehaaGreatDoor
namespace Go.Gs
open Go.RowKit
structure Cmd where
 kind:Int
 word:List UInt8
 n:Int
def Cmd.v (c:Cmd):Value:=.agg #[.int .i64 c.kind,.string ⟨c.word.toArray⟩,.int .i64 c.n]
def Q5 (c:UInt8):Bool:=(97<=c.toNat && c.toNat<=122) || (48<=c.toNat && c.toNat<=57)
def isWord (s:List UInt8):Bool:=decide (0<s.length) && decide (s.length<=12) && s.all Q5
def uses (k:Int):Nat:=if 1<=k/\k<=3 then 1 else if k=4\/k=9\/k=10 then 2 else if 5<=k/\k<=8 then 3 else 0
def chk (c:Cmd):Int:=
 if uses c.kind=0 then 4
 else if (uses c.kind≠1/\c.word≠[])\/(uses c.kind≠2/\c.n≠0) then 4
 else if uses c.kind=2/\(c.n<1\/1000<c.n) then 3
 else if uses c.kind=1/\(isWord c.word=false\/(c.kind=3/\c.word.length≠2)) then 1
 else 0
def U6 (k:Int):Bool:=decide (1<=k/\k<=5)
end Go.Gs
namespace Go.Gs
open Go.RowKit
set_option linter.unusedVariables false
def Y7 (a b:UInt8) (s:List UInt8):List UInt8:=s.map fun x=>if x=a then b else x
def P7 (n:Int) (s:List UInt8):List UInt8:=((Lib.split s [32])[(n-1).toNat]?).getD []
def U3 (ls:List (List UInt8)):List (List UInt8):=ls.mergeSort fun x y=>decide (x<=y)
def made (c:Cmd) (ls:List (List UInt8)):List (List UInt8):=
 if c.kind=1 then ls.filter (fun s=>Lib.contains s c.word)
 else if c.kind=2 then ls.filter (fun s=>!Lib.contains s c.word)
 else if c.kind=3 then ls.map (Y7 (c.word.getD 0 0) (c.word.getD 1 0))
 else if c.kind=4 then ls.map (P7 c.n)
 else if c.kind=5 then ls.map List.reverse
 else if c.kind=6 then U3 ls
 else if c.kind=7 then Lib.compact ls
 else if c.kind=8 then [Lib.itoa (ls.length:Int)]
 else if c.kind=9 then ls.take c.n.toNat
 else ls.drop (ls.length-c.n.toNat)
theorem made1 (c:Cmd) (h:c.kind=1) (ls:List (List UInt8)):made c ls=ls.filter (fun s=>Lib.contains s c.word):=by simp[made,h]
theorem made2 (c:Cmd) (h:c.kind=2) (ls:List (List UInt8)):made c ls=ls.filter (fun s=>!Lib.contains s c.word):=by simp[made,h]
theorem made3 (c:Cmd) (h:c.kind=3) (ls:List (List UInt8)):made c ls=ls.map (Y7 (c.word.getD 0 0) (c.word.getD 1 0)):=by simp[made,h]
theorem bn6 (c:Cmd) (h:c.kind=4) (ls:List (List UInt8)):made c ls=ls.map (P7 c.n):=by simp[made,h]
theorem bn8 (c:Cmd) (h:c.kind=5) (ls:List (List UInt8)):made c ls=ls.map List.reverse:=by simp[made,h]
theorem aC2 (c:Cmd) (h:c.kind=6) (ls:List (List UInt8)):made c ls=U3 ls:=by simp[made,h]
theorem aZ9 (c:Cmd) (h:c.kind=7) (ls:List (List UInt8)):made c ls=Lib.compact ls:=by simp[made,h]
theorem aP3 (c:Cmd) (h:c.kind=8) (ls:List (List UInt8)):made c ls=[Lib.itoa (ls.length:Int)]:=by simp[made,h]
theorem aJ9 (c:Cmd) (h:c.kind=9) (ls:List (List UInt8)):made c ls=ls.take c.n.toNat:=by simp[made,h]
theorem aG7 (c:Cmd) (h:c.kind=10) (ls:List (List UInt8)):made c ls=ls.drop (ls.length-c.n.toNat):=by simp[made,h]
theorem af7 (c:Cmd) (h:chk c=0):1<=c.kind/\c.kind<=10:=by
 unfold chk at h;split at h
 . cases h
 .
  rename_i hu;unfold uses at hu;split at hu
  . omega
  . split at hu
    . omega
    . split at hu
      . omega
      . exact absurd rfl hu
theorem ai5 (c:Cmd) (h:U6 c.kind=true) (xs ys:List (List UInt8)):made c (xs++ys)=made c xs++made c ys:=by
 have hk:c.kind=1\/c.kind=2\/c.kind=3\/c.kind=4\/c.kind=5:=by have:=of_decide_eq_true h;omega
 rcases hk with hk | hk | hk | hk | hk <;> simp[made,hk]
theorem aA0 (l:List (List UInt8)) (b:List UInt8) (h:∀s∈l,(10:UInt8)∉s):lines (ended l++b)=l++lines b:=by
 induction l with
 | nil=>simp[ended]
 | cons s l ih=>
  have hs:=h s (by simp)
  have:=ih (fun t ht=>h t (by simp[ht]))
  rw[E4,List.append_assoc,List.append_assoc]
  show x9 [] (s++10::(ended l++b))=_
  rw[ay2 s [] _ hs]
  simp only[List.nil_append,List.cons_append,List.cons.injEq,true_and]
  simpa[lines] using this
theorem bN1 (x y:List UInt8):(decide (x<=y) || decide (y<=x))=true:=by simp only[Bool.or_eq_true,decide_eq_true_eq];exact List.le_total x y
theorem bN2 (x y z:List UInt8) (h1:decide (x<=y)=true) (h2:decide (y<=z)=true):decide (x<=z)=true:=
 decide_eq_true (List.le_trans (of_decide_eq_true h1) (of_decide_eq_true h2))
theorem F9 (l:List (List UInt8)):(U3 l).Perm l:=List.mergeSort_perm _ _
theorem N9 (l:List (List UInt8)):(U3 l).Pairwise (fun x y=>x<=y):=by have:=List.pairwise_mergeSort (le:=fun x y:List UInt8=>decide (x<=y)) bN2 bN1 l;exact this.imp (fun h=>of_decide_eq_true h)
theorem Y9:∀(l m:List (List UInt8)),l.Perm m->l.Pairwise (fun x y=>x<=y)->m.Pairwise (fun x y=>x<=y)->l=m:=by intro l m hp hl hm;exact hp.eq_of_pairwise (fun a b _ _ h1 h2=>List.le_antisymm h1 h2) hl hm
structure SFile where
 name:List UInt8
 b:List UInt8
def fbad (p:Option (List UInt8)) (f:SFile):Int:=
 if isWord f.name=false then 1
 else if 4000<f.b.length then 2
 else match p with
  | none=>0
  | some q=>if q<f.name then 0 else 6
def q8:Option (List UInt8)->List SFile->Int
 | _,[]=>0
 | p,f::r=>if fbad p f=0 then q8 (some f.name) r else fbad p f
def fchk (l:List SFile):Int:=if 12<l.length then 2 else q8 none l
def D8 (l:List SFile) (n:List UInt8):List UInt8:=((l.find? (fun f=>f.name == n)).map SFile.b).getD []
theorem A6 {l m:List (List UInt8)} (h:l.Sublist m):(ended l).length<=(ended m).length:=by
 induction h with
 | slnil=>exact Nat.le_refl _
 | cons a _ ih=>rw[E4];simp;omega
 | cons_cons a _ ih=>rw[E4,E4];simp;omega
theorem ab0 {l m:List (List UInt8)} (h:l.Perm m):(ended l).length=(ended m).length:=by
 induction h with
 | nil=>rfl
 | cons a _ ih=>rw[E4,E4];simp;omega
 | swap a b l=>simp only[E4,List.length_append];omega
 | trans _ _ h1 h2=>exact h1.trans h2
theorem I2 (f:List UInt8->List UInt8) (hf:∀s,(f s).length<=s.length) (l:List (List UInt8)):(ended (l.map f)).length<=(ended l).length:=by
 induction l with
 | nil=>exact Nat.le_refl _
 | cons s l ih=>
  have:=hf s
  rw[List.map_cons,E4,E4]
  simp
  omega
theorem bB0 (sep:List UInt8):∀(k:Nat) (s:List UInt8),∀p∈Lib.splitK sep 0 k s,p.length<=s.length:=by
 intro k
 induction k with
 | zero=>intro s p hp;simp[Lib.splitK] at hp;subst hp;exact Nat.le_refl _
 | succ k ih=>
  intro s p hp
  unfold Lib.splitK at hp
  split at hp
  . simp at hp;subst hp;exact Nat.le_refl _
  .
   simp only[List.mem_cons] at hp
   rcases hp with rfl | hp
   . simp;omega
   . have:=ih _ p hp
     simp at this
     omega
theorem ar1 (n:Int) (s:List UInt8):(P7 n s).length<=s.length:=by
 unfold P7
 cases h:(Lib.split s [32])[(n-1).toNat]? with
 | none=>simp
 | some p=>exact bB0 _ _ _ p (mGt h)
theorem aX6 (sep:List UInt8):∀(k:Nat) (s:List UInt8),(10:UInt8)∉s -> ∀p∈Lib.splitK sep 0 k s,(10:UInt8)∉p:=by
 intro k
 induction k with
 | zero=>intro s hs p hp;simp[Lib.splitK] at hp;subst hp;exact hs
 | succ k ih=>
  intro s hs p hp
  unfold Lib.splitK at hp
  split at hp
  . simp at hp;subst hp;exact hs
  . simp only[List.mem_cons] at hp
    rcases hp with rfl | hp
    . exact fun h=>hs (List.mem_of_mem_take h)
    . exact ih _ (fun h=>hs (List.mem_of_mem_drop h)) p hp
theorem ay3:∀(k u:Nat),u<10 ^ (k+1)->(Lib.decDigits u).length<=k+1:=by
 intro k
 induction k with
 | zero=>intro u h;rw[Lib.decDigits,dif_pos (by simpa using h)];simp
 | succ k ih=>
  intro u h
  rw[Lib.decDigits]
  split
  . simp
  . have:=ih (u / 10) (by rw[Nat.div_lt_iff_lt_mul (by omega)];rw[Nat.pow_succ] at h;exact h)
    simp
    omega
theorem ad5 (l:List (List UInt8)):(Lib.compact l).Sublist l:=by unfold Lib.compact Lib.compactUpTo;have h:=(List.filter_sublist (p:=Lib.keeps l.toArray) (l:=List.range l.length)).map (fun j=>l.toArray[j]!);have e:=Lib.range_map_get l.toArray;simp only[List.size_toArray] at e;rw[e] at h;exact h
theorem cc0 {c:Cmd} (h:chk c=0) (hk:c.kind=3):c.word.length=2/\c.word.all Q5=true:=by
 unfold chk at h;have hu:uses c.kind=1:=by rw[hk];rfl
 rw[hu] at h;by_cases hw:isWord c.word=false
 . simp[hw] at h;split at h <;> cases h
 .
  by_cases h2:c.word.length=2
  . refine⟨h2,?_⟩;have:isWord c.word=true:=by simpa using hw
    unfold isWord at this;simp at this;simpa using this.2
  . simp[hk,h2] at h;split at h <;> cases h
theorem ag3 {l m:List (List UInt8)} (h:l.Sublist m) (hm:∀s∈m,(10:UInt8)∉s):∀s∈l,(10:UInt8)∉s:=fun s hs=>hm s (h.subset hs)
def jchk (how:Int) (c:Cmd):Int:=if how<1\/4<how then 4 else if how=4 then chk c else if c.kind=0/\c.word=[]/\c.n=0 then 0 else 4
def numOf (s:List UInt8):Nat:=((List.range 4001).find? (fun (k:Nat)=>Lib.itoa (k:Int) == s)).getD 0
def ad0 (l:List (List UInt8)):Nat:=((l.head?).map numOf).getD 0
def sumOf (ps:List (List (List UInt8))):Nat:=(ps.map ad0).sum
def F3 (ps:List (List (List UInt8))):Nat->Option (Nat × List UInt8)
 | 0=>none
 | k+1=>match (ps[k]?).bind List.head? with
  | none=>F3 ps k
  | some s=>match F3 ps k with
   | none=>some (k,s)
   | some (j,t)=>if s<t then some (k,s) else some (j,t)
def least (ps:List (List (List UInt8))):Option (Nat × List UInt8):=F3 ps ps.length
def ac1:Nat->List (List (List UInt8))->List (List UInt8)
 | 0,_=>[]
 | n+1,ps=>match least ps with
  | none=>[]
  | some (k,s)=>s::ac1 n (ps.modify k (List.drop 1))
def Z7 (ps:List (List (List UInt8))):List (List UInt8):=ac1 ps.flatten.length ps
def joined (how:Int) (c:Cmd) (ps:List (List (List UInt8))):List (List UInt8):=
 if how=2 then Z7 ps else if how=3 then [Lib.itoa (sumOf ps:Int)] else if how=4 then made c ps.flatten else ps.flatten
def bB1 (s:List UInt8):Nat:=s.foldl (fun a c=>10*a+(c.toNat-48)) 0
theorem ay4:∀u:Nat,bB1 (Lib.decDigits u)=u:=by
 intro u
 induction u using Nat.strongRecOn with
 | ind u ih=>
  rw[Lib.decDigits]
  split
  . simp[bB1]
    omega
  .
   rename_i h
   have:=ih (u / 10) (by omega)
   unfold bB1 at this ⊢
   rw[List.foldl_append,this]
   simp
   omega
theorem cc1 {a b:Nat} (h:Lib.itoa (a:Int)=Lib.itoa (b:Int)):a=b:=by unfold Lib.itoa at h;rw[if_neg (by omega),if_neg (by omega)] at h;simp only[Int.toNat_natCast] at h;rw[<- ay4 a,<- ay4 b,h]
theorem aP4 (k:Nat) (h:k<=4000):numOf (Lib.itoa (k:Int))=k:=by
 unfold numOf
 cases hf:(List.range 4001).find? (fun (j:Nat)=>Lib.itoa (j:Int) == Lib.itoa (k:Int)) with
 | none=>
  have:=List.find?_eq_none.1 hf k (List.mem_range.2 (by omega))
  simp at this
 | some j=>
  have:=List.find?_some hf
  simp only[beq_iff_eq] at this
  simp[cc1 this]
theorem aP5 {s:List UInt8} (h:∀k:Nat,k<=4000->Lib.itoa (k:Int)≠s):numOf s=0:=by
 unfold numOf;rw[List.find?_eq_none.2]
 . rfl
 . intro k hk;simpa using h k (by have:=List.mem_range.1 hk;omega)
theorem bn9 (s:List UInt8):numOf s<=4000:=by
 unfold numOf
 cases hf:(List.range 4001).find? (fun (j:Nat)=>Lib.itoa (j:Int) == s) with
 | none=>simp
 | some j=>
  have:=List.mem_range.1 (List.mem_of_find?_eq_some hf)
  simp
  omega
theorem bB2 (l:List (List UInt8)):ad0 l<=4000:=by
 unfold ad0
 cases l with
 | nil=>simp
 | cons s r=>simpa using bn9 s
theorem bo0 (ps:List (List (List UInt8))):sumOf ps<=4000*ps.length:=by
 unfold sumOf
 induction ps with
 | nil=>simp
 | cons p ps ih=>
  have:=bB2 p
  simp only[List.map_cons,List.sum_cons,List.length_cons]
  omega
theorem bB3 {ps:List (List (List UInt8))} {k:Nat} {p:List (List UInt8)} (h:ps[k]? = some p):sumOf (ps.take (k+1))=sumOf (ps.take k)+ad0 p:=by unfold sumOf;rw[List.take_add_one,h];simp
theorem aC3 (ps:List (List (List UInt8))):∀(k:Nat) (j:Nat) (t:List UInt8),F3 ps k=some (j,t)->j<k/\(ps[j]?).bind List.head? = some t /\ ∀i,i<k -> ∀s,(ps[i]?).bind List.head? = some s->t<=s:=by
 intro k
 induction k with
 | zero=>intro j t h;cases h
 | succ k ih=>
  intro j t h
  unfold F3 at h
  cases hk:(ps[k]?).bind List.head? with
  | none=>
   rw[hk] at h
   obtain⟨h1,h2,h3⟩:=ih j t h
   refine⟨by omega,h2,fun i hi s hs=>?_⟩
   rcases Nat.lt_or_ge i k with h' | h'
   . exact h3 i h' s hs
   . obtain rfl:i=k:=by omega
     rw[hk] at hs;cases hs
  | some s=>
   rw[hk] at h
   simp only at h
   cases hl:F3 ps k with
   | none=>
    rw[hl] at h
    simp only[Option.some.injEq,Prod.mk.injEq] at h
    obtain⟨rfl,rfl⟩:=h
    refine⟨by omega,hk,fun i hi s' hs=>?_⟩
    rcases Nat.lt_or_ge i k with h' | h'
    .
     exfalso
     clear ih hk
     have:∀m,F3 ps m=none -> ∀i,i<m->(ps[i]?).bind List.head? = none:=by
      intro m
      induction m with
      | zero=>intro _ i hi;omega
      | succ m ihm=>
       intro hm i hi
       unfold F3 at hm
       cases hb:(ps[m]?).bind List.head? with
       | none=>
        rw[hb] at hm
        rcases Nat.lt_or_ge i m with h'' | h''
        . exact ihm hm i h''
        . obtain rfl:i=m:=by omega
          exact hb
       | some x=>
        rw[hb] at hm
        simp only at hm
        split at hm
        . cases hm
        . split at hm <;> cases hm
     rw[this k hl i h'] at hs
     cases hs
    . obtain rfl:i=k:=by omega
      rw[hk] at hs
      injection hs with hs
      rw[hs];exact List.le_refl _
   | some p=>
    obtain⟨j',t'⟩:=p
    rw[hl] at h
    simp only at h
    obtain⟨h1,h2,h3⟩:=ih j' t' hl
    by_cases hlt:s<t'
    .
     rw[if_pos hlt] at h
     simp only[Option.some.injEq,Prod.mk.injEq] at h
     obtain⟨rfl,rfl⟩:=h
     refine⟨by omega,hk,fun i hi s' hs=>?_⟩
     rcases Nat.lt_or_ge i k with h' | h'
     . exact List.le_trans (List.le_of_lt hlt) (h3 i h' s' hs)
     . obtain rfl:i=k:=by omega
       rw[hk] at hs
       injection hs with hs
       rw[hs];exact List.le_refl _
    .
     rw[if_neg hlt] at h
     simp only[Option.some.injEq,Prod.mk.injEq] at h
     obtain⟨rfl,rfl⟩:=h
     refine⟨by omega,h2,fun i hi s' hs=>?_⟩
     rcases Nat.lt_or_ge i k with h' | h'
     . exact h3 i h' s' hs
     . obtain rfl:i=k:=by omega
       rw[hk] at hs
       injection hs with hs
       rw[<- hs];exact List.not_lt.1 hlt
theorem bg4 (ps:List (List (List UInt8))):∀m,F3 ps m=none -> ∀i,i<m->(ps[i]?).bind List.head? = none:=by
 intro m
 induction m with
 | zero=>intro _ i hi;omega
 | succ m ihm=>
  intro hm i hi
  unfold F3 at hm
  cases hb:(ps[m]?).bind List.head? with
  | none=>
   rw[hb] at hm
   rcases Nat.lt_or_ge i m with h'' | h''
   . exact ihm hm i h''
   . obtain rfl:i=m:=by omega
     exact hb
  | some x=>
   rw[hb] at hm
   simp only at hm
   split at hm
   . cases hm
   . split at hm <;> cases hm
theorem least_some {ps:List (List (List UInt8))} {k:Nat} {s:List UInt8} (h:least ps=some (k,s)):∃r,ps[k]? = some (s::r) /\ ∀p∈ps,∀x,p.head? = some x->s<=x:=by
 obtain⟨h1,h2,h3⟩:=aC3 ps _ k s h
 cases hp:ps[k]? with
 | none=>rw[hp] at h2;cases h2
 | some p=>
  rw[hp] at h2
  cases p with
  | nil=>cases h2
  | cons x r=>
   simp only[Option.bind_some,List.head?_cons,Option.some.injEq] at h2
   refine⟨r,by rw[h2],fun p hp x hx=>?_⟩
   obtain⟨i,hi,rfl⟩:=List.mem_iff_getElem.1 hp
   exact h3 i hi x (by rw[gEl hi];exact hx)
theorem aP6 {ps:List (List (List UInt8))} (h:least ps=none):ps.flatten=[]:=by have:=bg4 ps _ h;rw[List.flatten_eq_nil_iff];intro p hp;obtain⟨i,hi,rfl⟩:=List.mem_iff_getElem.1 hp;have:=this i hi;rw[gEl hi] at this;simpa using this
theorem ag4 {ps:List (List (List UInt8))}:∀{k:Nat} {s:List UInt8} {r:List (List UInt8)},ps[k]? = some (s::r)->ps.flatten.Perm (s::(ps.modify k (List.drop 1)).flatten):=by
 induction ps with
 | nil=>intro k s r h;simp at h
 | cons p ps ih=>
  intro k s r h
  cases k with
  | zero=>
   simp only[List.getElem?_cons_zero,Option.some.injEq] at h
   subst h
   simp
  | succ k=>
   simp only[List.getElem?_cons_succ] at h
   simp only[List.modify_succ_cons,List.flatten_cons]
   exact ((ih h).append_left p).trans List.perm_middle
theorem ak1 {ps:List (List (List UInt8))} {k:Nat} {s:List UInt8} {r:List (List UInt8)} (h:ps[k]? = some (s::r)):ps.flatten.length=(ps.modify k (List.drop 1)).flatten.length+1:=by have:=(ag4 h).length_eq;simpa using this
theorem ar2:∀(n:Nat) (ps:List (List (List UInt8))),ps.flatten.length=n->(ac1 n ps).Perm ps.flatten:=by
 intro n
 induction n with
 | zero=>intro ps h;rw[List.eq_nil_of_length_eq_zero h];exact List.Perm.nil
 | succ n ih=>
  intro ps h
  unfold ac1
  cases hl:least ps with
  | none=>rw[aP6 hl] at h;cases h
  | some q=>
   obtain⟨k,s⟩:=q
   obtain⟨r,hr,_⟩:=least_some hl
   have hm:=ak1 hr
   exact ((ih _ (by omega)).cons s).trans (ag4 hr).symm
theorem aC4 (ps:List (List (List UInt8))):(Z7 ps).Perm ps.flatten:=ar2 _ _ rfl
theorem aG8:∀u:Nat,(10:UInt8)∉Lib.decDigits u:=by
 intro u
 induction u using Nat.strongRecOn with
 | ind u ih=>
  have hd:∀d:Nat,d<10->(10:UInt8)≠UInt8.ofNat (48+d):=by
   intro d hd e
   have:d=0\/d=1\/d=2\/d=3\/d=4\/d=5\/d=6\/d=7\/d=8\/d=9:=by omega
   rcases this with rfl | rfl | rfl | rfl | rfl | rfl | rfl | rfl | rfl | rfl <;> exact absurd e (by decide)
  rw[Lib.decDigits]
  split
  . rename_i h
    simp only[List.mem_singleton]
    exact hd u h
  . simp only[List.mem_append,List.mem_singleton,not_or]
    exact⟨ih (u / 10) (by omega),hd _ (Nat.mod_lt _ (by omega))⟩
theorem aK0 (n:Nat):(10:UInt8)∉Lib.itoa (n:Int):=by unfold Lib.itoa;rw[if_neg (by omega)];exact aG8 _
theorem ad6 (c:Cmd) (hc:chk c=0) (ls:List (List UInt8)) (h:∀s∈ls,(10:UInt8)∉s):∀s∈made c ls,(10:UInt8)∉s:=by
 have hk:=af7 c hc;have:c.kind=1\/c.kind=2\/c.kind=3\/c.kind=4\/c.kind=5\/c.kind=6\/c.kind=7\/c.kind=8\/c.kind=9\/c.kind=10:=by omega
 rcases this with e | e | e | e | e | e | e | e | e | e
 . rw[made1 c e];exact ag3 List.filter_sublist h
 . rw[made2 c e];exact ag3 List.filter_sublist h
 .
  rw[made3 c e];intro s hs hm;obtain⟨t,ht,rfl⟩:=List.mem_map.1 hs;obtain⟨h2,hw⟩:=cc0 hc e;unfold Y7 at hm;obtain⟨y,hy,hxy⟩:=List.mem_map.1 hm;split at hxy
  . have:Q5 (c.word.getD 1 0)=true:=by
     match hcw:c.word,h2,hw with
     | [x,y],_,hw=>simp at hw;simpa using hw.2
    rw[hxy] at this;exact absurd this (by decide)
  . exact h t ht (hxy ▸ hy)
 .
  rw[bn6 c e];intro s hs;obtain⟨t,ht,rfl⟩:=List.mem_map.1 hs;unfold P7
  cases hf:(Lib.split t [32])[(c.n-1).toNat]? with
  | none=>simp
  | some p=>exact aX6 _ _ _ (h t ht) p (mGt hf)
 . rw[bn8 c e];intro s hs;obtain⟨t,ht,rfl⟩:=List.mem_map.1 hs;simpa using h t ht
 . rw[aC2 c e];exact fun s hs=>h s ((F9 ls).mem_iff.1 hs)
 . rw[aZ9 c e];exact ag3 (ad5 ls) h
 . rw[aP3 c e];intro s hs;rw[List.mem_singleton.1 hs];exact aK0 _
 . rw[aJ9 c e];exact ag3 (List.take_sublist _ _) h
 . rw[aG7 c e];exact ag3 (List.drop_sublist _ _) h
theorem ay5 (how:Int) (c:Cmd) (hc:how=4->chk c=0) (ps:List (List (List UInt8))) (h:∀p∈ps,∀s∈p,(10:UInt8)∉s):∀s∈joined how c ps,(10:UInt8)∉s:=by
 have hf:∀s∈ps.flatten,(10:UInt8)∉s:=by intro s hs;obtain⟨p,hp,hsp⟩:=List.mem_flatten.1 hs;exact h p hp s hsp
 unfold joined;split
 . exact fun s hs=>hf s ((aC4 ps).mem_iff.1 hs)
 .
  split
  . intro s hs;rw[List.mem_singleton.1 hs];exact aK0 _
  . split
    . rename_i h4;exact ad6 c (hc h4) _ hf
    . exact hf
end Go.Gs
namespace Go.Gs
open Go.RowKit
structure SNode where
 kind:Int
 file:List UInt8
 c:Cmd
 how:Int
 wide:Int
 ins:List (Int × Int)
def nouts (n:SNode):Int:=if n.kind=2 then n.wide else if n.kind=5 then 0 else 1
def ba0 (c:Cmd):Bool:=decide (c.kind=0) && c.word.isEmpty && decide (c.n=0)
def C6 (n:SNode):Int:=
 if n.kind=1\/n.kind=5 then (if isWord n.file then 0 else 1)
 else if n.kind=2 then (if n.wide<1\/5<n.wide then 3 else 0)
 else if n.kind=3 then chk n.c
 else if n.kind=4 then jchk n.how n.c
 else 4
def M1 (k:Int) (m:Nat):Bool:=if k=1 then decide (m=0) else if k=4 then decide (1<=m/\m<=5) else decide (m=1)
def I5 (n:SNode):Bool:=
 (!decide (n.kind=1\/n.kind=5) && !n.file.isEmpty) || (!decide (n.kind=2) && !decide (n.wide=0)) || (!decide (n.kind=3\/n.kind=4) && !ba0 n.c) || (!decide (n.kind=4) && !decide (n.how=0))
def l7 (n:SNode):Int:=if C6 n≠0 then C6 n else if !M1 n.kind n.ins.length || I5 n then 4 else 0
def A7 (ns:List SNode) (p:Int × Int):Bool:=decide (0<=p.1) && decide (p.1<ns.length) && decide (0<=p.2) && ((ns[p.1.toNat]?).map (fun n=>decide (p.2<nouts n))).getD false
def D4 (ahead:List SNode):List (Int × Int)->List (Int × Int)->Int × List (Int × Int)
 | [],t=>(0,t)
 | p::r,t=>if A7 ahead p=false then (5,t) else if p∈t then (6,t) else D4 ahead r (t++[p])
def y8:List SNode->List SNode->List (Int × Int)->Int × List (Int × Int)
 | _,[],t=>(0,t)
 | ahead,n::r,t=>
  if l7 n≠0 then (l7 n,t)
  else if (D4 ahead n.ins t).1≠0 then D4 ahead n.ins t
  else if r.isEmpty≠decide (n.kind=5) then (4,t)
  else y8 (ahead++[n]) r (D4 ahead n.ins t).2
def G7 (ns:List SNode):Int:=(ns.map nouts).sum
def gchk (ns:List SNode):Int:=
 if 60<ns.length then 2
 else if (y8 [] ns []).1≠0 then (y8 [] ns []).1
 else if ns.length=0\/((y8 [] ns []).2.length:Int)≠G7 ns then 4
 else 0
def j3 (outs:List (List (List UInt8))) (p:Int × Int):List UInt8:=((outs[p.1.toNat]?).getD [])[p.2.toNat]?.getD []
def partOf (bs:List UInt8) (p k:Nat):List UInt8:=ended (((lines bs).take ((k+1)*(lines bs).length / p)).drop (k*(lines bs).length / p))
def i8 (n:SNode) (fs:List SFile) (ins:List (List UInt8)):List (List UInt8):=
 if n.kind=1 then [ended (lines (D8 fs n.file))]
 else if n.kind=2 then (List.range n.wide.toNat).map (partOf (ins.head?.getD []) n.wide.toNat)
 else if n.kind=3 then [ended (made n.c (lines (ins.head?.getD [])))]
 else if n.kind=4 then [ended (joined n.how n.c (ins.map lines))]
 else []
def j5 (fs:List SFile):List (List (List UInt8))->List SNode->List (List (List UInt8))
 | acc,[]=>acc
 | acc,n::r=>j5 fs (acc++[i8 n fs (n.ins.map (j3 acc))]) r
def sunk (ns:List SNode) (fs:List SFile):List UInt8:=((ns.getLast?).map (fun n=>j3 (j5 fs [] ns) (n.ins.head?.getD (0,0)))).getD []
end Go.Gs
namespace Go.Gs
open Go.RowKit
set_option linter.unusedVariables false
theorem Reads.shape {w:World} {v:Value} {n:Nat} {xs:List Value} (h:Reads w v n xs):∃ao cap,v=.slice ao n cap/\n<=cap/\cap<=maxLen:=by obtain⟨_,ao,cap,h1,h2,h3,_⟩:=h;exact⟨ao,cap,h1,h2,h3⟩
def j9 (w:World) (v:Value) (fs:List SFile):Prop:=
 ∃ao cap,v=.slice ao fs.length cap/\fs.length<=cap/\cap<=maxLen /\
  (fs.length≠0 -> ∃b off,ao=some ⟨b,off,none⟩ /\ ∀j f,fs[j]? = some f -> ∃vb,w.cell? ⟨b,off+j*2,none⟩=some (.string ⟨f.name.toArray⟩)/\w.cell? ⟨b,off+j*2+1,none⟩=some vb/\Reads w vb f.b.length (f.b.map U))
theorem j9.below {w w':World} {v:Value} {fs:List SFile} (h:j9 w v fs) (hb:Bq w w'):j9 w' v fs:=by obtain⟨ao,cap,rfl,h2,h3,h4⟩:=h;refine⟨ao,cap,rfl,h2,h3,fun hn=>?_⟩;obtain⟨b,off,rfl,hc⟩:=h4 hn;refine⟨b,off,rfl,fun j c hj=>?_⟩;obtain⟨vb,a1,a2,a3⟩:=hc j c hj;exact⟨vb,(hb.cell (bLt w _ a1)).trans a1,(hb.cell (bLt w _ a2)).trans a2,a3.below hb⟩
theorem j9.shape {w:World} {v:Value} {fs:List SFile} (h:j9 w v fs):∃ao cap,v=.slice ao fs.length cap/\fs.length<=cap/\cap<=maxLen:=by obtain⟨ao,cap,h1,h2,h3,_⟩:=h;exact⟨ao,cap,h1,h2,h3⟩
theorem j9.at {w:World} {ao:Option Addr} {n cap:Nat} {fs:List SFile} (h:j9 w (.slice ao n cap) fs) {k:Nat} {f:SFile} (hk:fs[k]? = some f) :
 ∃b off ab cb,ao=some ⟨b,off,none⟩/\w.cell? ⟨b,off+k*2,none⟩=some (.string ⟨f.name.toArray⟩)/\w.cell? ⟨b,off+k*2+1,none⟩=some (.slice ab f.b.length cb)/\Reads w (.slice ab f.b.length cb) f.b.length (f.b.map U):=by obtain⟨ao',cap',e,_,_,h5⟩:=h;injection e with e1 e2 e3;subst e1;obtain⟨hkl,_⟩:=gSm hk;obtain⟨b,off,hao,hc⟩:=h5 (by omega);obtain⟨vb,a1,a2,a3⟩:=hc k f hk;obtain⟨ab,cb,rfl,_,_⟩:=a3.shape;exact⟨b,off,ab,cb,hao,a1,a2,a3⟩
theorem ac2 {w:World} {ao:Option Addr} {n cap:Nat} {fs:List SFile} (h:j9 w (.slice ao n cap) fs):n<=cap/\cap<=9223372036854775807:=by obtain⟨_,c,e,h1,h2⟩:=h.shape;unfold maxLen at h2;injection e with e1 e2 e3;omega
def M3 (f:SFile):Prop:=f.name.length<=9223372036854775807
def E2 (w:World) (v:Value) (ps:List (Int × Int)):Prop:=
 ∃ao cap,v=.slice ao ps.length cap/\ps.length<=cap/\cap<=maxLen /\
  (ps.length≠0 -> ∃b off,ao=some ⟨b,off,none⟩ /\ ∀(j:Nat) p,ps[j]? = some p->w.cell? ⟨b,off+j*2,none⟩=some (.int .i64 p.1)/\w.cell? ⟨b,off+j*2+1,none⟩=some (.int .i64 p.2))
theorem E2.below {w w':World} {v:Value} {ps:List (Int × Int)} (h:E2 w v ps) (hb:Bq w w'):E2 w' v ps:=by obtain⟨ao,cap,rfl,h2,h3,h4⟩:=h;refine⟨ao,cap,rfl,h2,h3,fun hn=>?_⟩;obtain⟨b,off,rfl,hc⟩:=h4 hn;refine⟨b,off,rfl,fun j c hj=>?_⟩;obtain⟨a1,a2⟩:=hc j c hj;exact⟨(hb.cell (bLt w _ a1)).trans a1,(hb.cell (bLt w _ a2)).trans a2⟩
theorem E2.shape {w:World} {v:Value} {ps:List (Int × Int)} (h:E2 w v ps):∃ao cap,v=.slice ao ps.length cap/\ps.length<=cap/\cap<=maxLen:=by obtain⟨ao,cap,h1,h2,h3,_⟩:=h;exact⟨ao,cap,h1,h2,h3⟩
theorem E2.at {w:World} {ao:Option Addr} {n cap:Nat} {ps:List (Int × Int)} (h:E2 w (.slice ao n cap) ps) {k:Nat} {p:Int × Int} (hk:ps[k]? = some p) :
 ∃b off,ao=some ⟨b,off,none⟩/\w.cell? ⟨b,off+k*2,none⟩=some (.int .i64 p.1)/\w.cell? ⟨b,off+k*2+1,none⟩=some (.int .i64 p.2):=by obtain⟨ao',cap',e,_,_,h5⟩:=h;injection e with e1 e2 e3;subst e1;obtain⟨hkl,_⟩:=gSm hk;obtain⟨b,off,hao,hc⟩:=h5 (by omega);obtain⟨a1,a2⟩:=hc k p hk;exact⟨b,off,hao,a1,a2⟩
theorem L2 {w:World} {ao:Option Addr} {n cap:Nat} {ps:List (Int × Int)} (h:E2 w (.slice ao n cap) ps):n<=cap/\cap<=9223372036854775807:=by obtain⟨_,c,e,h1,h2⟩:=h.shape;unfold maxLen at h2;injection e with e1 e2 e3;omega
def aA1 (w:World) (b off:Nat) (n:SNode) (ai:Option Addr) (ci:Nat):Prop:=
 w.cell? ⟨b,off,none⟩=some (.int .i64 n.kind)/\w.cell? ⟨b,off+1,none⟩=some (.string ⟨n.file.toArray⟩)/\w.cell? ⟨b,off+2,none⟩=some (.int .i64 n.c.kind)/\w.cell? ⟨b,off+3,none⟩=some (.string ⟨n.c.word.toArray⟩) /\
 w.cell? ⟨b,off+4,none⟩=some (.int .i64 n.c.n)/\w.cell? ⟨b,off+5,none⟩=some (.int .i64 n.how)/\w.cell? ⟨b,off+6,none⟩=some (.int .i64 n.wide)/\w.cell? ⟨b,off+7,none⟩=some (.slice ai n.ins.length ci)
theorem aA1.below {w w':World} {b off:Nat} {n:SNode} {ai:Option Addr} {ci:Nat} (h:aA1 w b off n ai ci) (hb:Bq w w'):aA1 w' b off n ai ci:=by
 obtain⟨a0,a1,a2,a3,a4,a5,a6,a7⟩:=h
 exact⟨(hb.cell (bLt w _ a0)).trans a0,(hb.cell (bLt w _ a1)).trans a1,(hb.cell (bLt w _ a2)).trans a2,(hb.cell (bLt w _ a3)).trans a3,
  (hb.cell (bLt w _ a4)).trans a4,(hb.cell (bLt w _ a5)).trans a5,(hb.cell (bLt w _ a6)).trans a6,(hb.cell (bLt w _ a7)).trans a7⟩
def A2 (w:World) (v:Value) (ns:List SNode):Prop:=
 ∃ao cap,v=.slice ao ns.length cap/\ns.length<=cap/\cap<=maxLen /\
  (ns.length≠0 -> ∃b off,ao=some ⟨b,off,none⟩ /\ ∀(j:Nat) n,ns[j]? = some n -> ∃ai ci,aA1 w b (off+j*8) n ai ci/\E2 w (.slice ai n.ins.length ci) n.ins)
theorem A2.below {w w':World} {v:Value} {ns:List SNode} (h:A2 w v ns) (hb:Bq w w'):A2 w' v ns:=by obtain⟨ao,cap,rfl,h2,h3,h4⟩:=h;refine⟨ao,cap,rfl,h2,h3,fun hn=>?_⟩;obtain⟨b,off,rfl,hc⟩:=h4 hn;refine⟨b,off,rfl,fun j c hj=>?_⟩;obtain⟨ai,ci,a1,a2⟩:=hc j c hj;exact⟨ai,ci,a1.below hb,a2.below hb⟩
theorem A2.shape {w:World} {v:Value} {ns:List SNode} (h:A2 w v ns):∃ao cap,v=.slice ao ns.length cap/\ns.length<=cap/\cap<=maxLen:=by obtain⟨ao,cap,h1,h2,h3,_⟩:=h;exact⟨ao,cap,h1,h2,h3⟩
theorem A2.at {w:World} {ao:Option Addr} {n cap:Nat} {ns:List SNode} (h:A2 w (.slice ao n cap) ns) {k:Nat} {x:SNode} (hk:ns[k]? = some x) :
 ∃b off ai ci,ao=some ⟨b,off,none⟩/\aA1 w b (off+k*8) x ai ci/\E2 w (.slice ai x.ins.length ci) x.ins:=by obtain⟨ao',cap',e,_,_,h5⟩:=h;injection e with e1 e2 e3;subst e1;obtain⟨hkl,_⟩:=gSm hk;obtain⟨b,off,hao,hc⟩:=h5 (by omega);obtain⟨ai,ci,a1,a2⟩:=hc k x hk;exact⟨b,off,ai,ci,hao,a1,a2⟩
theorem ac3 {w:World} {ao:Option Addr} {n cap:Nat} {ns:List SNode} (h:A2 w (.slice ao n cap) ns):n<=cap/\cap<=9223372036854775807:=by obtain⟨_,c,e,h1,h2⟩:=h.shape;unfold maxLen at h2;injection e with e1 e2 e3;omega
theorem A2.take {w:World} {ao:Option Addr} {n cap:Nat} {ns:List SNode} (h:A2 w (.slice ao n cap) ns) (k:Nat) (hk:k<=ns.length):A2 w (.slice ao k cap) (ns.take k):=by
 obtain⟨ao',cap',e,h2,h3,h5⟩:=h;injection e with e1 e2 e3;subst e1;subst e3;have hl:(ns.take k).length=k:=by rw[List.length_take];omega
 refine⟨ao,cap,by rw[hl],by omega,h3,fun hn=>?_⟩;obtain⟨b,off,hao,hc⟩:=h5 (by omega);refine⟨b,off,hao,fun j x hj=>hc j x ?_⟩;obtain⟨hj1,_⟩:=gSm hj;rwa [List.getElem?_take_of_lt (by omega)] at hj
def M4 (n:SNode):Prop:=n.file.length<=9223372036854775807/\n.c.word.length<=9223372036854775807/\(∀p∈n.ins,(Lit.int .i64 p.1).wf=true/\(Lit.int .i64 p.2).wf=true)
structure SPipe where
 b:List UInt8
 room:Int
 closed:Bool
 shut:Bool
def ae7:SPipe:=⟨[],0,false,false⟩
def plim (room:Int):Int:=if room=0 then 40000 else room
def pck (n:Nat) (room:Int) (shut:Bool):Int:=
 if room<0\/1000<room then 3 else if plim room<(n:Int) then 2 else if shut=true/\0<n then 4 else 0
def pchk (p:SPipe):Int:=pck p.b.length p.room p.shut
def pnew (room:Int):SPipe × Int:=if room<0\/1000<room then (ae7,3) else (⟨[],room,false,false⟩,0)
def pfit (m n:Nat) (room:Int):Nat:=min m (plim room-(n:Int)).toNat
def pwrite (p:SPipe) (cs:List UInt8):SPipe × Nat × Int:=
 if pchk p≠0 then (ae7,0,pchk p) else if p.closed=true then (ae7,0,7) else if p.shut=true then (⟨[],p.room,p.closed,p.shut⟩,cs.length,0)
 else (⟨p.b++cs.take (pfit cs.length p.b.length p.room),p.room,p.closed,p.shut⟩,pfit cs.length p.b.length p.room,0)
def pread (p:SPipe) (most:Int):SPipe × List UInt8 × Int:=
 if pchk p≠0 then (ae7,[],pchk p) else if most<0\/4000<most then (ae7,[],3)
 else (⟨p.b.drop (min most.toNat p.b.length),p.room,p.closed,p.shut⟩,p.b.take (min most.toNat p.b.length),0)
def pshut (p:SPipe):SPipe × Int:=
 if pchk p≠0 then (ae7,pchk p) else (⟨[],p.room,p.closed,true⟩,0)
theorem bg5 {n:Nat} {room:Int} {sh:Bool} (h:pck n room sh=0):0<=room/\room<=1000/\(n:Int)<=plim room/\(sh=true->n=0):=by
 unfold pck at h;split at h
 . cases h
 .
  split at h
  . cases h
  . split at h
    . cases h
    . refine⟨by omega,by omega,by omega,fun hs=>?_⟩;simp[hs] at *;omega
theorem aO4 {room:Int} (h:room<=1000):plim room<=40000:=by unfold plim;split <;> omega
theorem bg6 {m n:Nat} {room:Int}:pfit m n room<=m:=Nat.min_le_left _ _
theorem bo1 {m n:Nat} {room:Int} (h1:room<=1000) (h2:(n:Int)<=plim room):n+pfit m n room<=40000/\((n+pfit m n room:Nat):Int)<=plim room:=by have:=aO4 h1;have:pfit m n room<=(plim room-(n:Int)).toNat:=Nat.min_le_right _ _;omega
theorem bo2 {m n:Nat} {room:Int} (h2:(n:Int)<=plim room):(pfit m n room:Int)=if (m:Int)<=plim room-n then (m:Int) else plim room-n:=by unfold pfit;split <;> omega
def ab9 (p:SPipe) (ab:Option Addr) (cap:Nat):Value:=.agg #[.slice ab p.b.length cap,.int .i64 p.room,.bool p.closed,.bool p.shut]
def PB (w w':World) (ar:Option Addr) (cr:Nat) (bs:List UInt8):Prop:=Reads w' (.slice ar bs.length cr) bs.length (bs.map U)/\(∀a,ar=some a->w.heap.size<=a.block)/\(ar=none->cr=0)
theorem PB.none (w w':World):PB w w' none 0 []:=⟨⟨rfl,Option.none,0,rfl,Nat.le_refl _,by simp[maxLen],fun h=>absurd rfl h⟩,(fun a h=>by cases h),fun _=>rfl⟩
structure SProc where
 got:List (List UInt8)
 pos:Int
 out:List (List UInt8)
 rd:Bool
 ov:Bool
structure SMach where
 ns:List SNode
 fs:List SFile
 pipes:List SPipe
 ps:List SProc
 sunk:List UInt8
def H7:SMach:=⟨[],[],[],[],[]⟩
def j7 (ns:List SNode):List (Int × Int):=(ns.map SNode.ins).flatten
def b7 (ns:List SNode) (i:Nat):Nat:=(j7 (ns.take i)).length
def D9 (ns:List SNode) (p:Int × Int):Nat:=(j7 ns).idxOf p
def Q7 (l:List Int):Int:=(l.find? (fun x=>x != 0)).getD 0
def ab2 (l:List (List UInt8)):Bool:=l.any (fun b=>decide (40000<b.length))
def F4 (n:SNode) (p:SProc):Int:=
 if p.got.length≠n.ins.length\/(p.out.length:Int)≠nouts n then 4
 else if p.pos<0\/(n.ins.length:Int)<p.pos\/(p.ov=true/\p.rd=false)\/(p.rd=false/\0<n.ins.length/\p.pos=n.ins.length) then 3
 else if ab2 p.got || ab2 p.out then 2
 else 0
def H8:List SNode->List SProc->Int
 | n::ns,p::ps=>if F4 n p≠0 then F4 n p else H8 ns ps
 | _,_=>0
def mchk (M:SMach):Int:=
 if gchk M.ns≠0 then gchk M.ns
 else if fchk M.fs≠0 then fchk M.fs
 else if M.ps.length≠M.ns.length\/M.pipes.length≠(j7 M.ns).length then 4
 else if Q7 (M.pipes.map pchk)≠0 then Q7 (M.pipes.map pchk)
 else if H8 M.ns M.ps≠0 then H8 M.ns M.ps
 else if 40000<M.sunk.length then 2
 else 0
def SMach.setP (M:SMach) (i:Nat) (p:SProc):SMach:=⟨M.ns,M.fs,M.pipes,M.ps.set i p,M.sunk⟩
def SMach.setX (M:SMach) (q:Nat) (x:SPipe):SMach:=⟨M.ns,M.fs,M.pipes.set q x,M.ps,M.sunk⟩
def SMach.pipe (M:SMach) (q:Nat):SPipe:=(M.pipes[q]?).getD ae7
def D6 (n:SNode) (fs:List SFile) (p:SProc):SProc:=⟨p.got.map (fun _=>[]),p.pos,List.zipWith (· ++ ·) p.out (i8 n fs p.got),true,p.ov⟩
def o6 (b:List UInt8):Nat:=(b.reverse.dropWhile (fun c=>c != 10)).length
def passes (n:SNode):Bool:=(decide (n.kind=4) && decide (n.how=1)) || (decide (n.kind=3) && U6 n.c.kind)
def through (n:SNode) (whole:List UInt8):List UInt8:=if n.kind=4 then whole else ended (made n.c (lines whole))
def SProc.at (p:SProc):List UInt8:=(p.got[p.pos.toNat]?).getD []
def SProc.setGot (p:SProc) (b:List UInt8):SProc:=⟨p.got.set p.pos.toNat b,p.pos,p.out,p.rd,p.ov⟩
def SProc.setOut (p:SProc) (k:Nat) (b:List UInt8):SProc:=⟨p.got,p.pos,p.out.set k b,p.rd,p.ov⟩
def J3 (M:SMach) (i:Nat) (p:SProc):Nat->List (List UInt8)->SMach × Int
 | _,[]=>(M,8)
 | k,b::r=>
  if 0<(pwrite (M.pipe (D9 M.ns (i,k))) b).2.1 then
   ((M.setX (D9 M.ns (i,k)) (pwrite (M.pipe (D9 M.ns (i,k))) b).1).setP i (p.setOut k (b.drop (pwrite (M.pipe (D9 M.ns (i,k))) b).2.1)),0)
  else J3 M i p (k+1) r
def Z8 (x:SPipe):SPipe:=⟨x.b,x.room,true,x.shut⟩
def S7 (ns:List SNode) (i:Nat):Nat->List SPipe->List SPipe
 | 0,xs=>xs
 | k+1,xs=>(S7 ns i k xs).modify (D9 ns (i,k)) Z8
def endS (M:SMach) (i:Nat) (p:SProc):SMach:=⟨M.ns,M.fs,S7 M.ns i p.out.length M.pipes,M.ps.set i ⟨p.got,p.pos,p.out,p.rd,true⟩,M.sunk⟩
def K9 (M:SMach) (i:Nat) (n:SNode) (q:Nat) (p:SProc):SMach:=
 if n.kind=5 then ⟨M.ns,M.fs,M.pipes,M.ps.set i (p.setGot []),M.sunk++p.at⟩
 else if passes n && p.at.contains 10 then M.setP i ((p.setOut 0 ((p.out[0]?).getD []++through n (p.at.take (o6 p.at)))).setGot (p.at.drop (o6 p.at)))
 else if n.kind=3/\n.c.kind=9/\n.c.n<=(p.at.count 10:Int) then (M.setX q ⟨[],(M.pipe q).room,(M.pipe q).closed,true⟩).setP i (D6 n M.fs p)
 else M.setP i p
def aK1 (M:SMach) (i:Nat) (n:SNode) (q:Nat) (p:SProc):SMach × Int:=
 if (M.pipe q).closed && (M.pipe q).b.isEmpty then
  (if p.pos+1=p.got.length then (M.setP i (D6 n M.fs ⟨p.got,p.pos+1,p.out,p.rd,p.ov⟩),0) else (M.setP i ⟨p.got,p.pos+1,p.out,p.rd,p.ov⟩,0))
 else if (M.pipe q).b.isEmpty then (M,8)
 else (K9 (M.setX q ⟨(M.pipe q).b.drop 8,(M.pipe q).room,(M.pipe q).closed,(M.pipe q).shut⟩) i n q (p.setGot (p.at++(M.pipe q).b.take 8)),0)
def ay6 (M:SMach) (i:Nat) (n:SNode) (p:SProc):SMach × Int:=
 if p.ov then (M,7)
 else if p.out.any (fun b=>!b.isEmpty) then J3 M i p 0 p.out
 else if p.rd then (endS M i p,0)
 else if p.got.isEmpty then (M.setP i (D6 n M.fs p),0)
 else aK1 M i n (b7 M.ns i+p.pos.toNat) p
def I4 (M:SMach) (i:Nat):SMach × Int:=
 match M.ns[i]?,M.ps[i]? with
 | some n,some p=>ay6 M i n p
 | _,_=>(M,5)
def stepS (M:SMach) (i:Int):SMach × Int:=if i<0\/(M.ps.length:Int)<=i then (M,5) else I4 M i.toNat
def overS (M:SMach):Bool:=M.ps.all (fun p=>p.ov)
def roundTo (M:SMach):Nat->SMach × Bool
 | 0=>(M,false)
 | k+1=>((I4 (roundTo M k).1 k).1,(roundTo M k).2 || decide ((I4 (roundTo M k).1 k).2=0))
def ab3 (M:SMach):SMach × Bool:=roundTo M M.ps.length
def Fins:Nat->SMach->SMach × Int->Prop
 | 0,M,r=>(overS M=true/\r=(M,0))\/(overS M=false/\(ab3 M).2=false/\r=(H7,8))
 | k+1,M,r=>overS M=false/\(ab3 M).2=true/\Fins k (ab3 M).1 r
def l9 (M:SMach):List Int->SMach × List Int
 | []=>(M,[])
 | i::r=>((l9 (stepS M i).1 r).1,(stepS M i).2::(l9 (stepS M i).1 r).2)
def roomOf (ns:List SNode) (room:Int) (p:Int × Int):Int:=if ((ns[p.1.toNat]?).map SNode.kind)=some 2 then 0 else room
def S8 (n:SNode):SProc:=⟨List.replicate n.ins.length [],0,List.replicate (nouts n).toNat [],false,false⟩
def o7 (ns:List SNode) (fs:List SFile) (room:Int):SMach:=⟨ns,fs,(j7 ns).map (fun p=>⟨[],roomOf ns room p,false,false⟩),ns.map S8,[]⟩
def newS (ns:List SNode) (fs:List SFile) (room:Int):SMach × Int:=
 if gchk ns≠0 then (H7,gchk ns) else if fchk fs≠0 then (H7,fchk fs) else if room<1\/1000<room then (H7,3) else (o7 ns fs room,0)
end Go.Gs
namespace Go.Proofs.YtllgglolcgdehaaGreatDoor
open Go.RowKit Go.Gs
set_option linter.unusedVariables false
theorem ai6 {w:World} {o:Obj}:Bq w (w.alloc o):=(Below.refl _ w).alloc (Nat.le_refl _) o
theorem ag5 {w:World} {o p:Obj}:Bq w ((w.alloc o).alloc p):=(ai6 (w:=w) (o:=o)).alloc (by simp) p
theorem bo3 {w:World} {v:Value} {n:Nat} {xs:List Value} (h:Reads w v n xs):∃ao cap,v=.slice ao n cap/\n<=cap/\cap<=maxLen:=by obtain⟨_,ao,cap,rfl,h2,h3,_⟩:=h;exact⟨ao,cap,rfl,h2,h3⟩
theorem E8 {w:World} {ao:Option Addr} {n cap:Nat} {xs:List Value} (h:Reads w (.slice ao n cap) n xs):n<=9223372036854775807/\n<=cap/\cap<=9223372036854775807:=by obtain⟨_,c,e,h1,h2⟩:=bo3 h;injection e with e1 e2 e3;subst e3;unfold maxLen at h2;omega
theorem ar4 {w:World} {ao:Option Addr} {n cap:Nat} {bs:List UInt8} (h:Reads w (.slice ao n cap) n (bs.map U)) {k:Nat} {c:UInt8} (hk:bs[k]? = some c) :
 ∃b off,ao=some ⟨b,off,none⟩/\w.cell? ⟨b,off+k,none⟩=some (.int .u8 (c.toNat:Int)):=by obtain⟨h1,ao',cap',e,_,_,h5⟩:=h;injection e with e1 e2 e3;subst e1;obtain⟨hkl,_⟩:=gSm hk;rw[List.length_map] at h1;obtain⟨b,off,hao,hc⟩:=h5 (by omega);exact⟨b,off,hao,hc k (U c) (by rw[List.getElem?_map,hk];rfl)⟩
theorem addP {b off j:Nat}:(⟨b,off,none⟩:Addr).add j=⟨b,off+j,none⟩:=by unfold Addr.add;split <;> simp_all
theorem bg7:(Tryz.prog.info? 5).map (fun i=>(i.zero,i.size,i.bytes))=some (some (.int .u8 0),1,1):=by kernel_rfl
theorem aP7 {bs:List UInt8}:∀u∈bs.map U,u.oneCell'=true:=by intro u hu;obtain⟨x,_,rfl⟩:=List.mem_map.1 hu;rfl
theorem cw6 {w w':World} {a b c d:Value} {t:TypeId} (h:Below (w.alloc (.cells #[a,b,c,d] t)).heap.size (w.alloc (.cells #[a,b,c,d] t)) w') :
 w'.heap[w.heap.size]? = some (.cells #[a,b,c,d] t (0,0)):=(h.block _ (by simp)).trans (heap_alloc_new w _)
theorem E7 {w:World} {k:Nat} {a b c d:Value} {t:TypeId} (h:w.heap[k]? = some (.cells #[a,b,c,d] t (0,0))) :
 w.cell? ⟨k,0,none⟩=some a/\w.cell? ⟨k,1,none⟩=some b/\w.cell? ⟨k,2,none⟩=some c/\w.cell? ⟨k,3,none⟩=some d:=by
 refine⟨?_,?_,?_,?_⟩
 all_goals
  rw[cell_of_row _ _ _ _ _ _ h]
  rfl
theorem ai7 {w:World} {k:Nat} {a b c d:Value} {t:TypeId} (h:w.heap[k]? = some (.cells #[a,b,c,d] t (0,0))) :
 w.frozen? ⟨k,0,none⟩=false/\w.frozen? ⟨k,1,none⟩=false/\w.frozen? ⟨k,2,none⟩=false/\w.frozen? ⟨k,3,none⟩=false:=
 ⟨frozen_of_row _ _ _ _ _ h,frozen_of_row _ _ _ _ _ h,frozen_of_row _ _ _ _ _ h,frozen_of_row _ _ _ _ _ h⟩
theorem aK2 {B:Nat} {w w1:World} (h:Below B w w1) {k:Nat} (hk:B<=k) (a b c d:Value):Below B w ((((w1.setCell ⟨k,0,none⟩ a).setCell ⟨k,1,none⟩ b).setCell ⟨k,2,none⟩ c).setCell ⟨k,3,none⟩ d):=
 (((h.setCell hk a).setCell hk b).setCell hk c).setCell hk d
theorem bN3 {w:World} {ao:Option Addr} {n cap:Nat} {xs:List Value} (h:Reads w (.slice ao n cap) n xs) {k off:Nat} (hk:∀a,ao=some a->a.block≠k) (v:Value):Reads (w.setCell ⟨k,off,none⟩ v) (.slice ao n cap) n xs:=by obtain⟨h1,ao',cap',e,h2,h3,h4⟩:=h;injection e with e1 e2 e3;subst e1 e3;refine⟨h1,_,_,rfl,h2,h3,fun hn=>?_⟩;obtain⟨b,o,rfl,hc⟩:=h4 hn;refine⟨b,o,rfl,fun j u hu=>?_⟩;have hne:b≠k:=hk _ rfl;rw[World.cell?_setCell_other _ _ _ _ (by intro e;injection e with e1;omega)];exact hc j u hu
theorem PB.setP {w w':World} {ar:Option Addr} {cr:Nat} {bs:List UInt8} (h:PB w w' ar cr bs) {k off:Nat} (hk:k<w.heap.size) (v:Value):PB w (w'.setCell ⟨k,off,none⟩ v) ar cr bs:=
 ⟨bN3 h.1 (fun a ha=>by have:=h.2.1 a ha;omega) v,h.2⟩
theorem PB.fromP {w w1 w':World} {ar:Option Addr} {cr:Nat} {bs:List UInt8} (h:PB w1 w' ar cr bs) (hs:w.heap.size<=w1.heap.size):PB w w' ar cr bs:=⟨h.1,fun a ha=>Nat.le_trans hs (h.2.1 a ha),h.2.2⟩
theorem o8 {fn:Func} {p u x:Tmp} {ty:TypeId} (h:fn.results=#[.cell p ty,.tmp u,.tmp x]) (tmps:Array Value) (P:Program) (w:World) :
 (results fn tmps).run P w =
  ((asAddr (tmps.getD p undef)).run P w).andThen fun a w₁=>((loadVar ty a).run P w₁).andThen fun v w₂=>.ok (.tuple #[v,tmps.getD u undef,tmps.getD x undef]) w₂:=by simp only[results,h];simp[Sem.run_bind,Result.andThen]
theorem aP8 {w w':World} {a b c d a' b' c' d':Value} {t t':TypeId} (h:Below ((w.alloc (.cells #[a,b,c,d] t)).alloc (.cells #[a',b',c',d'] t')).heap.size ((w.alloc (.cells #[a,b,c,d] t)).alloc (.cells #[a',b',c',d'] t')) w') :
 w'.heap[w.heap.size]? = some (.cells #[a,b,c,d] t (0,0))/\w'.heap[w.heap.size+1]? = some (.cells #[a',b',c',d'] t' (0,0)):=by
 refine⟨(h.block _ (by simp;omega)).trans ?_,(h.block _ (by simp)).trans ?_⟩
 . rw[ai6.block _ (by simp)];exact heap_alloc_new w _
 . have:=heap_alloc_new (w.alloc (.cells #[a,b,c,d] t)) (.cells #[a',b',c',d'] t');simpa using this
theorem bK7 (ab:Option Addr) (cb:Nat) (bs:List UInt8) (w:World) (hr:Reads w (.slice ab bs.length cb) bs.length (bs.map U)) (hl:bs.length<=100000) :
 Calls Tryz.prog 125 #[.slice ab bs.length cb] w fun e w'=>∃ar cr,e=.returned (.slice ar bs.length cr)/\PB w w' ar cr bs/\Bq w w':=by
 obtain⟨i0,hi,hi0,hi1,hi2⟩:=info_parts bg7;have hq:∀(w:World) (a:Option Addr) (n c n' c':Nat),(binOp .eql 28 (.slice a n c) (.slice none n' c')).run Tryz.prog w=.ok (.bool a.isNone) w:=fun w a n c n' c'=>Lib.run_eql_slice_nil w _ _ a n c n' c' Tryz.underlying28;obtain⟨h1,ao,cap,e,h2,h3,h4⟩:=hr;injection e with e1 e2 e3;subst e1 e3
 cases ab with
 | none=>
  have h0:bs=[]:=by
   cases bs with
   | nil=>rfl
   | cons x r=>obtain⟨b,off,e,_⟩:=h4 (by simp);cases e
  subst h0
  clear h4 h1
  go_enter Tryz.func125,Tryz.ntmps125
  go_wp2_with fail
  go_ret
  exact⟨none,0,rfl,PB.none _ _,Below.refl _ _⟩
 | some a=>
  have Ac:∀j u,(bs.map U)[j]? = some u->w.cell? (a.add j)=some u:=by
   intro j u hj
   have:0<bs.length:=by
    have:=(gSm hj).1
    simp at this
    omega
   obtain⟨b,off,e,hc⟩:=h4 (by omega)
   injection e with e
   subst e
   rw[addP]
   exact hc j u hj
  have HC:Hid _:=Ac
  obtain⟨xs,hxs⟩:=qE (bs.map U)
  have HX:=qH hxs
  obtain⟨N,hN⟩:=qE bs.length
  have HN:=qH hN
  have HXL:Hid (xs.length=N):=(show _=_ by rw[hxs,hN,List.length_map])
  rw[<- hxs] at HC
  unfold PB
  rw[<- hxs,<- hN]
  rw[<- hN] at hl
  clear h4 h1 Ac hxs hN h2 h3
  go_enter Tryz.func125,Tryz.ntmps125
  go_wp2_with (at_builtin;refine wpList_append_own _ rfl _ _ 28 rfl w.heap.size 5 i0 (.int .u8 0) 1 1 Tryz.underlying28 hi hi0 hi1 hi2 rfl (by decide) _ _ _ rfl (World.ownsRow_made w #[] 0 (Nat.le_refl _) (Nat.zero_le _) rfl) a N cb xs rfl ?qc1 ?qc2 ?qc3 ?qc4 ?qc5 ?qc6 ?_)
  case qc1=>first | (rw[HXL.out];done) | (rw[HXL.out,Nat.mul_one])
  case qc2=>
   intro j u hj
   have h:=HC.out j u hj
   rw[ai6.cell (bLt w _ h)]
   exact h
  case qc3=>rw[HX.out];exact aP7
  case qc4=>unfold maxLen;omega
  case qc5=>omega
  all_goals try (case qc6=>simp)
  .
   intro v' w1 Ab hg Dp
   have HB:Hid (Bq w w1):=ai6.grown hg (by simp) (fun k hk=>by injection hk with hk;subst hk;exact Nat.le_refl _)
   have Bg:w1.ownsRow w.heap.size 5 1 v' N xs:=by simpa using Ab
   have HO:=qH Bg
   have HR:Hid (∃ar cr,v'=.slice ar N cr/\(∀a,ar=some a->w.heap.size<=a.block)/\(ar=none->cr=0)):=(show ∃ar cr,v'=.slice ar N cr/\(∀a,ar=some a->w.heap.size<=a.block)/\(ar=none->cr=0) by
    rcases Bg.2 with ⟨rfl,h0⟩ | ⟨g,cap,cur,rfl,hb,_⟩
    . exact⟨none,0,by rw[h0],(fun a h=>by cases h),fun _=>rfl⟩
    . exact⟨_,cap,rfl,(fun a h=>by injection h with h;subst h;exact hb),fun h=>by cases h⟩)
   clear Ab hg Dp Bg
   go_wp2
   go_ret
   obtain⟨ar,cr,hv,hn⟩:=HR.out
   refine⟨ar,cr,by rw[<- hv];rfl,⟨?_,hn⟩,HB.out⟩
   rw[<- hv]
   exact Reads.of_owns HO.out
def U7 (w:World) (v:Value) (xs:List SPipe):Prop:=
 ∃ao cap,v=.slice ao xs.length cap/\xs.length<=cap/\cap<=maxLen /\
  (xs.length≠0 -> ∃b off,ao=some ⟨b,off,none⟩ /\ ∀(j:Nat) (x:SPipe),xs[j]? = some x -> ∃ab cb,w.cell? ⟨b,off+j*4,none⟩=some (.slice ab x.b.length cb)/\w.cell? ⟨b,off+j*4+1,none⟩=some (.int .i64 x.room) /\
   w.cell? ⟨b,off+j*4+2,none⟩=some (.bool x.closed)/\w.cell? ⟨b,off+j*4+3,none⟩=some (.bool x.shut)/\Reads w (.slice ab x.b.length cb) x.b.length (x.b.map U))
theorem U7.below {w w':World} {v:Value} {xs:List SPipe} (h:U7 w v xs) (hb:Bq w w'):U7 w' v xs:=by obtain⟨ao,cap,rfl,h2,h3,h4⟩:=h;refine⟨ao,cap,rfl,h2,h3,fun hn=>?_⟩;obtain⟨b,off,rfl,hc⟩:=h4 hn;refine⟨b,off,rfl,fun j c hj=>?_⟩;obtain⟨ab,cb,a0,a1,a2,a3,a4⟩:=hc j c hj;exact⟨ab,cb,(hb.cell (bLt w _ a0)).trans a0,(hb.cell (bLt w _ a1)).trans a1,(hb.cell (bLt w _ a2)).trans a2,(hb.cell (bLt w _ a3)).trans a3,a4.below hb⟩
theorem U7.shape {w:World} {v:Value} {xs:List SPipe} (h:U7 w v xs):∃ao cap,v=.slice ao xs.length cap/\xs.length<=cap/\cap<=maxLen:=by obtain⟨ao,cap,h1,h2,h3,_⟩:=h;exact⟨ao,cap,h1,h2,h3⟩
theorem U7.at {w:World} {ao:Option Addr} {n cap:Nat} {xs:List SPipe} (h:U7 w (.slice ao n cap) xs) {k:Nat} {x:SPipe} (hk:xs[k]? = some x) :
 ∃b off ab cb,ao=some ⟨b,off,none⟩/\w.cell? ⟨b,off+k*4,none⟩=some (.slice ab x.b.length cb)/\w.cell? ⟨b,off+k*4+1,none⟩=some (.int .i64 x.room) /\
  w.cell? ⟨b,off+k*4+2,none⟩=some (.bool x.closed)/\w.cell? ⟨b,off+k*4+3,none⟩=some (.bool x.shut)/\Reads w (.slice ab x.b.length cb) x.b.length (x.b.map U):=by obtain⟨ao',cap',e,_,_,h5⟩:=h;injection e with e1 e2 e3;subst e1;obtain⟨hkl,_⟩:=gSm hk;obtain⟨b,off,hao,hc⟩:=h5 (by omega);obtain⟨ab,cb,a⟩:=hc k x hk;exact⟨b,off,ab,cb,hao,a⟩
theorem al1 {w:World} {ao:Option Addr} {n cap:Nat} {xs:List SPipe} (h:U7 w (.slice ao n cap) xs):n<=cap/\cap<=9223372036854775807:=by obtain⟨_,c,e,h1,h2⟩:=h.shape;unfold maxLen at h2;injection e with e1 e2 e3;omega
def Q8 (w:World) (v:Value) (ps:List SProc):Prop:=
 ∃ao cap,v=.slice ao ps.length cap/\ps.length<=cap/\cap<=maxLen /\
  (ps.length≠0 -> ∃b off,ao=some ⟨b,off,none⟩ /\ ∀(j:Nat) (p:SProc),ps[j]? = some p -> ∃ag cg ab cb,w.cell? ⟨b,off+j*5,none⟩=some (.slice ag p.got.length cg)/\w.cell? ⟨b,off+j*5+1,none⟩=some (.int .i64 p.pos) /\
   w.cell? ⟨b,off+j*5+2,none⟩=some (.slice ab p.out.length cb)/\w.cell? ⟨b,off+j*5+3,none⟩=some (.bool p.rd)/\w.cell? ⟨b,off+j*5+4,none⟩=some (.bool p.ov)/\RList w (.slice ag p.got.length cg) U p.got/\RList w (.slice ab p.out.length cb) U p.out)
theorem Q8.below {w w':World} {v:Value} {ps:List SProc} (h:Q8 w v ps) (hb:Bq w w'):Q8 w' v ps:=by obtain⟨ao,cap,rfl,h2,h3,h4⟩:=h;refine⟨ao,cap,rfl,h2,h3,fun hn=>?_⟩;obtain⟨b,off,rfl,hc⟩:=h4 hn;refine⟨b,off,rfl,fun j c hj=>?_⟩;obtain⟨ag,cg,ab,cb,a0,a1,a2,a3,a4,a5,a6⟩:=hc j c hj;exact⟨ag,cg,ab,cb,(hb.cell (bLt w _ a0)).trans a0,(hb.cell (bLt w _ a1)).trans a1,(hb.cell (bLt w _ a2)).trans a2,(hb.cell (bLt w _ a3)).trans a3,(hb.cell (bLt w _ a4)).trans a4,a5.below hb,a6.below hb⟩
theorem Q8.shape {w:World} {v:Value} {ps:List SProc} (h:Q8 w v ps):∃ao cap,v=.slice ao ps.length cap/\ps.length<=cap/\cap<=maxLen:=by obtain⟨ao,cap,h1,h2,h3,_⟩:=h;exact⟨ao,cap,h1,h2,h3⟩
theorem Q8.at {w:World} {ao:Option Addr} {n cap:Nat} {ps:List SProc} (h:Q8 w (.slice ao n cap) ps) {k:Nat} {p:SProc} (hk:ps[k]? = some p) :
 ∃b off ag cg ab cb,ao=some ⟨b,off,none⟩/\w.cell? ⟨b,off+k*5,none⟩=some (.slice ag p.got.length cg)/\w.cell? ⟨b,off+k*5+1,none⟩=some (.int .i64 p.pos) /\
  w.cell? ⟨b,off+k*5+2,none⟩=some (.slice ab p.out.length cb)/\w.cell? ⟨b,off+k*5+3,none⟩=some (.bool p.rd)/\w.cell? ⟨b,off+k*5+4,none⟩=some (.bool p.ov)/\RList w (.slice ag p.got.length cg) U p.got/\RList w (.slice ab p.out.length cb) U p.out:=by obtain⟨ao',cap',e,_,_,h5⟩:=h;injection e with e1 e2 e3;subst e1;obtain⟨hkl,_⟩:=gSm hk;obtain⟨b,off,hao,hc⟩:=h5 (by omega);obtain⟨ag,cg,ab,cb,a⟩:=hc k p hk;exact⟨b,off,ag,cg,ab,cb,hao,a⟩
theorem af8 {w:World} {ao:Option Addr} {n cap:Nat} {ps:List SProc} (h:Q8 w (.slice ao n cap) ps):n<=cap/\cap<=9223372036854775807:=by obtain⟨_,c,e,h1,h2⟩:=h.shape;unfold maxLen at h2;injection e with e1 e2 e3;omega
def machV (an af ax ap aS:Option Addr) (M:SMach) (cn cf cx cp cs:Nat):Value:=.agg #[.slice an M.ns.length cn,.slice af M.fs.length cf,.slice ax M.pipes.length cx,.slice ap M.ps.length cp,.slice aS M.sunk.length cs]
structure RMach (w:World) (an af ax ap aS:Option Addr) (cn cf cx cp cs:Nat) (M:SMach):Prop where
 nodes:A2 w (.slice an M.ns.length cn) M.ns
 files:j9 w (.slice af M.fs.length cf) M.fs
 pipes:U7 w (.slice ax M.pipes.length cx) M.pipes
 procs:Q8 w (.slice ap M.ps.length cp) M.ps
 sunk:Reads w (.slice aS M.sunk.length cs) M.sunk.length (M.sunk.map U)
theorem RMach.below {w w':World} {an af ax ap aS:Option Addr} {cn cf cx cp cs:Nat} {M:SMach} (h:RMach w an af ax ap aS cn cf cx cp cs M) (hb:Bq w w'):RMach w' an af ax ap aS cn cf cx cp cs M:=
 ⟨h.nodes.below hb,h.files.below hb,h.pipes.below hb,h.procs.below hb,h.sunk.below hb⟩
structure FitsM (M:SMach):Prop where
 nodes:∀n∈M.ns,M4 n
 files:∀f∈M.fs,M3 f
 pos:∀p∈M.ps,(Lit.int .i64 p.pos).wf=true
theorem ag6 {w:World} {ao:Option Addr} {n cap:Nat} {pss:List (List UInt8)} (h:RList w (.slice ao n cap) U pss):n=pss.length/\n<=cap/\cap<=9223372036854775807:=by obtain⟨_,c,e,h1,h2⟩:=h.shape;unfold maxLen at h2;injection e with e1 e2 e3;omega
end Go.Proofs.YtllgglolcgdehaaGreatDoor
namespace Go.Gs
open Go.RowKit
set_option linter.unusedVariables false
abbrev FRow:=SFile × (Option Addr × Nat × Nat)
def encF (x:FRow):List Value:=[.string ⟨x.1.name.toArray⟩,.slice x.2.1 x.2.2.1 x.2.2.2]
def j4 (out:List FRow):List Value:=(out.map encF).flatten
theorem O4 (out:List FRow) (r:FRow):j4 (r::out)=encF r++j4 out:=by simp[j4]
theorem q9 (out:List FRow):(j4 out).length=out.length*2:=by
 induction out with
 | nil=>rfl
 | cons r l ih=>
  rw[O4,List.length_append,ih]
  simp[encF]
  omega
theorem ad7:∀(out:List FRow) (j:Nat) (r:FRow),out[j]? = some r->(j4 out)[j*2]? = some (.string ⟨r.1.name.toArray⟩)/\(j4 out)[j*2+1]? = some (.slice r.2.1 r.2.2.1 r.2.2.2)
 | [],j,r,h=>by simp at h
 | d::l,0,r,h=>by
  simp at h;subst h
  simp[j4,encF]
 | d::l,j+1,r,h=>by
  have ih:=ad7 l j r (by simpa using h)
  rw[O4]
  refine⟨?_,?_⟩
  . rw[List.getElem?_append_right (by simp[encF];omega),show (j+1)*2-(encF d).length=j*2 by simp[encF];omega]
    exact ih.1
  . rw[List.getElem?_append_right (by simp[encF];omega),show (j+1)*2+1-(encF d).length=j*2+1 by simp[encF];omega]
    exact ih.2
theorem ar5 (r:FRow):∀u∈encF r,u.oneCell'=true:=by intro u hu;simp[encF] at hu;rcases hu with rfl | rfl <;> rfl
theorem ae8 (out:List FRow):∀u∈j4 out,u.oneCell'=true:=by intro u hu;unfold j4 at hu;rw[List.mem_flatten] at hu;obtain⟨l,hl,hul⟩:=hu;obtain⟨r,_,rfl⟩:=List.mem_map.1 hl;exact ar5 r u hul
theorem aC5:∀(out:List FRow) (j:Nat) (r r':FRow),out[j]? = some r->r'.1.name=r.1.name->j4 (out.set j r')=(j4 out).set (j*2+1) (.slice r'.2.1 r'.2.2.1 r'.2.2.2)
 | [],j,r,r',h,_=>by simp at h
 | d::l,0,r,r',h,hn=>by
  simp at h;subst h
  simp[j4,encF,hn]
 | d::l,j+1,r,r',h,hn=>by
  rw[List.set_cons_succ,O4,O4,aC5 l j r r' (by simpa using h) hn,List.set_append_right _ _ (by simp[encF];omega),show (j+1)*2+1-(encF d).length=j*2+1 by simp[encF];omega]
theorem aQ0 {w:World} {b off:Nat}:∀{rows:List FRow},(∀(j:Nat) (r:FRow),rows[j]? = some r->w.cell? ⟨b,off+j*2,none⟩=some (.string ⟨r.1.name.toArray⟩)/\w.cell? ⟨b,off+j*2+1,none⟩=some (.slice r.2.1 r.2.2.1 r.2.2.2)) -> ∀j u,(j4 rows)[j]? = some u->w.cell? ⟨b,off+j,none⟩=some u:=by
 intro rows h j u hu;have hl:j<(j4 rows).length:=(gSm hu).1;rw[q9] at hl;have hq:rows[j / 2]? = some (rows[j / 2]'(by omega)):=gEl _;obtain⟨a1,a2⟩:=ad7 rows (j / 2) _ hq;obtain⟨b1,b2⟩:=h (j / 2) _ hq;rcases Nat.mod_two_eq_zero_or_one j with hm | hm
 . have e:j=j / 2*2:=by omega
   rw[<- e] at a1 b1;rw[a1] at hu;rw[b1,hu]
 . have e:j=j / 2*2+1:=by omega
   rw[<- e] at a2;rw[Nat.add_assoc,<- e] at b2;rw[a2] at hu;rw[b2,hu]
def ag8 (w:World) (go:Option Nat) (r:FRow):Prop:=r.2.2.1=r.1.b.length/\Reads w (.slice r.2.1 r.2.2.1 r.2.2.2) r.1.b.length (r.1.b.map U)/\(r.1.b.length≠0 -> ∀a,r.2.1=some a->go≠some a.block)
theorem ad8 {w w':World} {ao:Option Addr} {n m cap:Nat} {xs:List Value} (h:Reads w (.slice ao n cap) m xs) (hk:∀a,ao=some a->w'.heap[a.block]? = w.heap[a.block]?):Reads w' (.slice ao n cap) m xs:=by obtain⟨h1,ao',cap',e,h2,h3,h4⟩:=h;injection e with e1 e2 e3;subst e1 e2 e3;refine⟨h1,ao,cap,rfl,h2,h3,fun hn=>?_⟩;obtain⟨b,off,rfl,hc⟩:=h4 hn;refine⟨b,off,rfl,fun j u hu=>?_⟩;have e:=hk _ rfl;have:=hc j u hu;simp only[World.cell?] at this ⊢;rw[e];exact this
theorem ag8.keep {w w':World} {go:Option Nat} {r:FRow} (h:ag8 w go r) (hk:∀k,k<w.heap.size->go≠some k->w'.heap[k]? = w.heap[k]?):ag8 w' go r:=by
 refine⟨h.1,?_,h.2.2⟩;by_cases h0:r.1.b.length=0
 . obtain⟨h1,ao,cap,e,h2,h3,h4⟩:=h.2.1;exact⟨h1,ao,cap,e,h2,h3,fun hn=>absurd h0 hn⟩
 . refine ad8 h.2.1 (fun a ha=>hk _ ?_ (h.2.2 h0 a ha));obtain⟨h1,ao,cap,e,h2,h3,h4⟩:=h.2.1;obtain⟨b,off,rfl,hc⟩:=h4 h0;injection e with e1 e2 e3;rw[e1] at ha;injection ha with ha;subst ha;have hl:0<(r.1.b.map U).length:=by rw[h1];omega
   exact bLt w _ (hc 0 _ (gEl hl))
structure FO (w:World) (B:Nat) (e:TypeId) (v:Value) (rows:List FRow):Prop where
 own:w.ownsRow B e 2 v rows.length (j4 rows)
 good:∀r∈rows,ag8 w v.ownBlock r
theorem FO.files {w:World} {B:Nat} {e:TypeId} {v:Value} {rows:List FRow} (h:FO w B e v rows):j9 w v (rows.map (·.1)):=by
 have hl:(rows.map (·.1)).length=rows.length:=List.length_map _;rcases h.own.2 with ⟨rfl,h0⟩ | ⟨g,cap,cur,rfl,hb,hg,h1,h2,h3,h4⟩
 . exact⟨none,0,by rw[hl,h0],by omega,by simp[maxLen],fun hn=>absurd (hl.trans h0) hn⟩
 .
  refine⟨_,cap,by rw[hl],by omega,h2,fun _=>⟨g,0,rfl,fun j f hj=>?_⟩⟩;rw[List.getElem?_map] at hj
  cases hr:rows[j]? with
  | none=>rw[hr] at hj;cases hj
  | some r=>
   rw[hr] at hj
   simp only[Option.map_some,Option.some.injEq] at hj
   subst hj
   obtain⟨a1,a2⟩:=ad7 rows j r hr
   have hjl:j<rows.length:=(gSm hr).1
   have c1:=h.own.cellAt (j*2) (by omega)
   have c2:=h.own.cellAt (j*2+1) (by omega)
   rw[a1] at c1
   rw[a2] at c2
   exact⟨_,by rw[Nat.zero_add];exact c1,by rw[Nat.zero_add];exact c2,(h.good r (mGt hr)).2.1⟩
theorem M6 {w:World} {B:Nat} {e:TypeId} {size g n cap:Nat} {xs:List Value} (h:w.ownsRow B e size (.slice (some ⟨g,0,none⟩) n cap) n xs) (j:Nat) (hj:j<n*size) (u:Value):(w.setCell ⟨g,j,none⟩ u).ownsRow B e size (.slice (some ⟨g,0,none⟩) n cap) n (xs.set j u):=by
 obtain⟨h1,h2⟩:=h;refine⟨by rw[List.length_set];exact h1,?_⟩;rcases h2 with ⟨h2,_⟩ | ⟨g',cap',cur,h2,hb,hg,h3,h4,h5,h6⟩
 . cases h2
 .
  injection h2 with e1 e2 e3;injection e1 with e1;injection e1 with e1;subst e1 e3;refine .inr ⟨g,cap,cur.setIfInBounds j u,rfl,hb,?_,h3,h4,by simpa using h5,?_⟩
  . rw[setCell_eq_setRow w g j cur e (0,0) u hg];exact setRow_heap w g cur _ e _ hg
  . rw[Array.toList_setIfInBounds,List.take_set,h6]
theorem FO.set {w:World} {B:Nat} {e:TypeId} {g n cap:Nat} {rows:List FRow} (h:FO w B e (.slice (some ⟨g,0,none⟩) n cap) rows) {k:Nat} {r r':FRow} (hk:rows[k]? = some r) (hn:r'.1.name=r.1.name) (hr:ag8 w (some g) r') :
 FO (w.setCell ⟨g,k*2+1,none⟩ (.slice r'.2.1 r'.2.2.1 r'.2.2.2)) B e (.slice (some ⟨g,0,none⟩) n cap) (rows.set k r'):=by
 have hkl:k<rows.length:=(gSm hk).1;have hnn:n=rows.length:=by
  rcases h.own.2 with ⟨h2,_⟩ | ⟨_,_,_,h2,_⟩
  . cases h2
  . injection h2
 subst hnn;refine⟨?_,fun x hx=>?_⟩
 . rw[List.length_set,aC5 rows k r r' hk hn];exact M6 h.own _ (by omega) _
 . have Bn:∀q,q<w.heap.size->some g≠some q->(w.setCell ⟨g,k*2+1,none⟩ (.slice r'.2.1 r'.2.2.1 r'.2.2.2)).heap[q]? = w.heap[q]?:=fun q _ hq=>Below.heap_setCell _ _ _ _ (fun e=>hq (by rw[e]));rcases List.mem_or_eq_of_mem_set hx with hx | rfl
   . exact (h.good x hx).keep Bn
   . exact hr.keep Bn
end Go.Gs
namespace Go.Proofs.YtllgglolcgdehaaGreatDoor
open Go.RowKit Go.Gs
set_option linter.unusedVariables false
abbrev Own:=Unit ⊕ Unit ⊕ Unit ⊕ Nat ⊕ Nat ⊕ Nat ⊕ (Nat × Nat) ⊕ (Nat × Nat) ⊕ Unit ⊕ Unit
abbrev Own.box:Own:=.inl ()
abbrev Own.pipes:Own:=.inr (.inl ())
abbrev Own.procs:Own:=.inr (.inr (.inl ()))
abbrev Own.gots (i:Nat):Own:=.inr (.inr (.inr (.inl i)))
abbrev Own.outs (i:Nat):Own:=.inr (.inr (.inr (.inr (.inl i))))
abbrev Own.pipe (q:Nat):Own:=.inr (.inr (.inr (.inr (.inr (.inl q)))))
abbrev Own.got (i j:Nat):Own:=.inr (.inr (.inr (.inr (.inr (.inr (.inl (i,j)))))))
abbrev Own.out (i k:Nat):Own:=.inr (.inr (.inr (.inr (.inr (.inr (.inr (.inl (i,k))))))))
abbrev Own.sunk:Own:=.inr (.inr (.inr (.inr (.inr (.inr (.inr (.inr (.inl ()))))))))
abbrev Own.aux:Own:=.inr (.inr (.inr (.inr (.inr (.inr (.inr (.inr (.inr ()))))))))
theorem Own.elimE {motive:Own->Prop} (box:motive Own.box) (pipes:motive Own.pipes) (procs:motive Own.procs) (gots:∀i,motive (Own.gots i)) (outs:∀i,motive (Own.outs i)) (pipe:∀q,motive (Own.pipe q)) (got:∀i j,motive (Own.got i j)) (out:∀i k,motive (Own.out i k)) (sunk:motive Own.sunk) (aux:motive Own.aux):∀o,motive o
 | .inl ()=>box
 | .inr (.inl ())=>pipes
 | .inr (.inr (.inl ()))=>procs
 | .inr (.inr (.inr (.inl i)))=>gots i
 | .inr (.inr (.inr (.inr (.inl i))))=>outs i
 | .inr (.inr (.inr (.inr (.inr (.inl q)))))=>pipe q
 | .inr (.inr (.inr (.inr (.inr (.inr (.inl (i,j)))))))=>got i j
 | .inr (.inr (.inr (.inr (.inr (.inr (.inr (.inl (i,k))))))))=>out i k
 | .inr (.inr (.inr (.inr (.inr (.inr (.inr (.inr (.inl ()))))))))=>sunk
 | .inr (.inr (.inr (.inr (.inr (.inr (.inr (.inr (.inr ()))))))))=>aux
abbrev Sl:=Option Addr × Nat
def sl (b:List UInt8) (s:Sl):Value:=.slice s.1 b.length s.2
def nilS:Sl:=(none,0)
def ROf (w:World) (O:Nat->Option Own) (o:Own) (s:Sl) (b:List UInt8):Prop:=
 Reads w (sl b s) b.length (b.map U)/\(s.1=none->s.2=0)/\(b≠[] -> ∀a,s.1=some a->O a.block=some o)
def SOf (w:World) (O:Nat->Option Own) (o:Own) (s:Sl) (b:List UInt8):Prop:=
 (s=nilS/\b=[]) \/ ∃g off cur,s.1=some ⟨g,off,none⟩/\O g=some o/\w.heap[g]? = some (.cells cur 5 (0,0))/\b.length<=s.2/\s.2<=maxLen/\off+s.2<=cur.size/\(cur.toList.drop off).take b.length=b.map U
theorem SOf.nil (w:World) (O:Nat->Option Own) (o:Own):SOf w O o nilS []:=.inl ⟨rfl,rfl⟩
theorem SOf.reads {w:World} {O:Nat->Option Own} {o:Own} {s:Sl} {b:List UInt8} (h:SOf w O o s b):Reads w (sl b s) b.length (b.map U):=by
 rcases h with ⟨rfl,rfl⟩ | ⟨g,off,cur,hs,ho,hg,h1,h2,h3,h4⟩
 . exact⟨rfl,none,0,rfl,Nat.le_refl _,by simp[maxLen],fun h=>absurd rfl h⟩
 .
  refine⟨by simp,s.1,s.2,rfl,h1,h2,fun hn=>⟨g,off,hs,fun j u hu=>?_⟩⟩;rw[cell_of_row _ _ _ _ _ _ hg];rw[<- h4,List.getElem?_take] at hu;split at hu
  . rw[List.getElem?_drop] at hu;simpa using hu
  . cases hu
theorem SOf.keep {w w':World} {O O':Nat->Option Own} {o:Own} {s:Sl} {b:List UInt8} (h:SOf w O o s b) (hk:∀k,O k=some o->w'.heap[k]? = w.heap[k]?) (hO:∀k,k<w.heap.size->O' k=O k):SOf w' O' o s b:=by
 rcases h with h | ⟨g,off,cur,hs,ho,hg,h1⟩
 . exact .inl h
 . exact .inr ⟨g,off,cur,hs,(hO g (aSm hg).1).trans ho,(hk g ho).trans hg,h1⟩
theorem SOf.drop {w:World} {O:Nat->Option Own} {o:Own} {s:Sl} {b:List UInt8} (h:SOf w O o s b) {g off:Nat} (hs:s.1=some ⟨g,off,none⟩) {n:Nat} (hn:n<=b.length) (s':Sl) (hs':s'=(some ⟨g,off+n,none⟩,s.2-n)\/(s'=(some ⟨g,off,none⟩,0)/\n=s.2)):SOf w O o s' (b.drop n):=by
 rcases h with ⟨rfl,rfl⟩ | ⟨g',off',cur,hs2,ho,hg,h1,h2,h3,h4⟩
 . cases hs
 .
  rw[hs] at hs2;injection hs2 with hs2;injection hs2 with e1 e2;subst e1 e2;refine .inr ?_;rcases hs' with rfl | ⟨rfl,hn2⟩
  . refine⟨g,off+n,cur,rfl,ho,hg,by rw[List.length_drop];show _<=s.2-n;omega,by show s.2-n<=_;omega,by show off+n+(s.2-n)<=_;omega,?_⟩;rw[List.map_drop,<- h4,<- List.drop_drop,List.length_drop,List.drop_take]
  . refine⟨g,off,cur,rfl,ho,hg,by rw[List.length_drop];show _<=0;omega,Nat.zero_le _,by show off+0<=_;omega,?_⟩;have:b.drop n=[]:=List.drop_of_length_le (by omega);rw[this];simp
theorem SOf.of_owns {w:World} {O:Nat->Option Own} {o:Own} {B:Nat} {v:Value} {b:List UInt8} (h:w.ownsRow B 5 1 v b.length (b.map U)) (hO:∀g,v.ownBlock=some g->O g=some o):∃s,v=sl b s/\SOf w O o s b /\ ∀a,s.1=some a->v.ownBlock=some a.block:=by
 rcases h.2 with ⟨rfl,h0⟩ | ⟨g,cap,cur,rfl,hb,hg,h1,h2,h3,h4⟩
 . have:b=[]:=List.length_eq_zero_iff.1 h0;subst this;exact⟨nilS,rfl,SOf.nil _ _ _,fun a h=>by cases h⟩
 . refine⟨(some ⟨g,0,none⟩,cap),rfl,.inr ⟨g,0,cur,rfl,hO g rfl,hg,h1,h2,by show 0+cap<=_;omega,?_⟩,fun a h=>by injection h with h;subst h;rfl⟩;rw[List.drop_zero];simpa using h4
theorem ROf.keep {w w':World} {O O':Nat->Option Own} {o:Own} {s:Sl} {b:List UInt8} (h:ROf w O o s b) (hk:∀k,O k=some o->w'.heap[k]? = w.heap[k]?) (hO:∀k o,O k=some o->O' k=O k):ROf w' O' o s b:=by
 refine⟨?_,h.2.1,fun hn a ha=>(hO _ _ (h.2.2 hn a ha)).trans (h.2.2 hn a ha)⟩;by_cases h0:b=[]
 . subst h0;obtain⟨h1,ao,cap,e,h2,h3,h4⟩:=h.1;exact⟨h1,ao,cap,e,h2,h3,fun hn=>absurd rfl hn⟩
 . exact ad8 h.1 (fun a ha=>hk _ (h.2.2 h0 a ha))
theorem ROf.nil (w:World) (O:Nat->Option Own) (o:Own):ROf w O o nilS []:=⟨⟨rfl,none,0,rfl,Nat.le_refl _,by simp[maxLen],fun h=>absurd rfl h⟩,fun _=>rfl,fun h=>absurd rfl h⟩
theorem ad1 {k:Nat}:∀(rows:List (List Value)) (j:Nat) (row:List Value),(∀r∈rows,r.length=k)->rows[j]? = some row -> ∀i,i<k->rows.flatten[j*k+i]? = row[i]?
 | [],j,row,_,h,i,_=>by simp at h
 | d::l,0,row,hl,h,i,hi=>by
  simp at h;subst h
  rw[List.flatten_cons,List.getElem?_append_left (by rw[hl d (by simp)];omega)]
  simp
 | d::l,j+1,row,hl,h,i,hi=>by
  have hd:=hl d (by simp)
  rw[List.flatten_cons,List.getElem?_append_right (by rw[hd,Nat.add_mul];omega),hd,show (j+1)*k+i-k=j*k+i by rw[Nat.add_mul];omega]
  exact ad1 l j row (fun r hr=>hl r (by simp[hr])) (by simpa using h) i hi
theorem U8 {k:Nat}:∀(rows:List (List Value)) (j:Nat) (row:List Value),(∀r∈rows,r.length=k)->rows[j]? = some row -> ∀i u,i<k->rows.flatten.set (j*k+i) u=(rows.set j (row.set i u)).flatten
 | [],j,row,_,h,i,u,_=>by simp at h
 | d::l,0,row,hl,h,i,u,hi=>by
  simp at h;subst h
  rw[List.flatten_cons,List.set_append_left _ _ (by rw[hl d (by simp)];omega)]
  simp
 | d::l,j+1,row,hl,h,i,u,hi=>by
  have hd:=hl d (by simp)
  rw[List.flatten_cons,List.set_append_right _ _ (by rw[hd,Nat.add_mul];omega),hd,show (j+1)*k+i-k=j*k+i by rw[Nat.add_mul];omega,U8 l j row (fun r hr=>hl r (by simp[hr])) (by simpa using h) i u hi]
  simp
theorem al2 {k:Nat}:∀(rows:List (List Value)),(∀r∈rows,r.length=k)->rows.flatten.length=rows.length*k
 | [],_=>by simp
 | d::l,hl=>by
  rw[List.flatten_cons,List.length_append,hl d (by simp),al2 l (fun r hr=>hl r (by simp[hr])),List.length_cons,Nat.add_mul]
  omega
theorem ac4 {α β γ:Type} {f:α->β->γ} {xs:List α} {ys:List β} {j:Nat} {x:α} {y:β} (hx:xs[j]? = some x) (hy:ys[j]? = some y):(List.zipWith f xs ys)[j]? = some (f x y):=by rw[List.getElem?_zipWith,hx,hy]
theorem ai8 {α β γ:Type} {f:α->β->γ}:∀(xs:List α) (ys:List β) (j:Nat) (x:α) (y:β),(List.zipWith f xs ys).set j (f x y)=List.zipWith f (xs.set j x) (ys.set j y)
 | [],ys,j,x,y=>by simp
 | a::xs,[],j,x,y=>by simp
 | a::xs,b::ys,0,x,y=>by simp
 | a::xs,b::ys,j+1,x,y=>by simp[ai8 xs ys j x y]
def P8 (x:SPipe) (s:Sl):List Value:=[sl x.b s,.int .i64 x.room,.bool x.closed,.bool x.shut]
def A4 (xs:List SPipe) (X:List Sl):List (List Value):=List.zipWith P8 xs X
theorem M7 (xs:List SPipe) (X:List Sl):∀r∈A4 xs X,r.length=4:=by intro r hr;obtain⟨i,hi⟩:=List.getElem?_of_mem hr;unfold A4 at hi;obtain⟨x,y,_,_,e⟩:=List.getElem?_zipWith_eq_some.1 hi;rw[<- e];rfl
structure PSlot where
 gv:Value
 ov:Value
 gs:List Sl
 os:List Sl
def I6 (p:SProc) (s:PSlot):List Value:=[s.gv,.int .i64 p.pos,s.ov,.bool p.rd,.bool p.ov]
def v6 (ps:List SProc) (P:List PSlot):List (List Value):=List.zipWith I6 ps P
theorem M8 (ps:List SProc) (P:List PSlot):∀r∈v6 ps P,r.length=5:=by intro r hr;obtain⟨i,hi⟩:=List.getElem?_of_mem hr;unfold v6 at hi;obtain⟨x,y,_,_,e⟩:=List.getElem?_zipWith_eq_some.1 hi;rw[<- e];rfl
def U9 (l:List (List UInt8)) (ss:List Sl):List Value:=List.zipWith sl l ss
structure RD where
 M:SMach
 vN:Value
 vF:Value
 vX:Value
 vP:Value
 vI:Value
 vM:Value
 sS:Sl
 X:List Sl
 P:List PSlot
def X7 (O:Nat->Option Own) (v:Value) (o:Own):Prop:=∀g,v.ownBlock=some g->O g=some o
def Part (w:World) (D r:Nat) (O:Nat->Option Own) (A:World->(Nat->Option Own)->Prop) (d:RD):Own->Prop
 | .inl ()=>w.heap[r]? = some (.cells #[d.vN,d.vF,d.vX,d.vP,sl d.M.sunk d.sS,d.vI,d.vM] 111 (0,0))/\O r=some .box
 | .inr (.inl ())=>w.ownsRow D 66 4 d.vX d.M.pipes.length (A4 d.M.pipes d.X).flatten/\X7 O d.vX .pipes
 | .inr (.inr (.inl ()))=>w.ownsRow D 76 5 d.vP d.M.ps.length (v6 d.M.ps d.P).flatten/\X7 O d.vP .procs
 | .inr (.inr (.inr (.inl i)))=>∀p s,d.M.ps[i]? = some p->d.P[i]? = some s->w.ownsRow D 28 1 s.gv p.got.length (U9 p.got s.gs)/\X7 O s.gv (.gots i)
 | .inr (.inr (.inr (.inr (.inl i))))=>∀p s,d.M.ps[i]? = some p->d.P[i]? = some s->w.ownsRow D 28 1 s.ov p.out.length (U9 p.out s.os)/\X7 O s.ov (.outs i)
 | .inr (.inr (.inr (.inr (.inr (.inl q)))))=>∀x s,d.M.pipes[q]? = some x->d.X[q]? = some s->ROf w O (.pipe q) s x.b
 | .inr (.inr (.inr (.inr (.inr (.inr (.inl (i,j)))))))=>∀p s b a,d.M.ps[i]? = some p->d.P[i]? = some s->p.got[j]? = some b->s.gs[j]? = some a->SOf w O (.got i j) a b
 | .inr (.inr (.inr (.inr (.inr (.inr (.inr (.inl (i,k))))))))=>∀p s b a,d.M.ps[i]? = some p->d.P[i]? = some s->p.out[k]? = some b->s.os[k]? = some a->SOf w O (.out i k) a b
 | .inr (.inr (.inr (.inr (.inr (.inr (.inr (.inr (.inl ()))))))))=>SOf w O .sunk d.sS d.M.sunk
 | .inr (.inr (.inr (.inr (.inr (.inr (.inr (.inr (.inr ()))))))))=>A w O
def ar6 (A:World->(Nat->Option Own)->Prop):Prop:=∀(w w':World) (O O':Nat->Option Own),A w O->(∀k,O k=some .aux->w'.heap[k]? = w.heap[k]?)->(∀k o,O k=some o->O' k=O k)->A w' O'
theorem o5 {w w':World} {B:Nat} {e:TypeId} {size n:Nat} {v:Value} {xs:List Value} (h:w.ownsRow B e size v n xs) (hk:∀g,v.ownBlock=some g->w'.heap[g]? = w.heap[g]?):w'.ownsRow B e size v n xs:=by
 refine⟨h.1,?_⟩;rcases h.2 with h0 | ⟨g,cap,cur,e1,hb,h1,h2⟩
 . exact .inl h0
 . refine .inr ⟨g,cap,cur,e1,hb,?_,h2⟩;rw[hk g (by rw[e1];rfl)];exact h1
theorem Part.keep {w w':World} {D r:Nat} {O O':Nat->Option Own} {A:World->(Nat->Option Own)->Prop} (hA:ar6 A) {d:RD} {o:Own} (h:Part w D r O A d o) (hk:∀k,O k=some o->w'.heap[k]? = w.heap[k]?) (hO:∀k o,O k=some o->O' k=O k) (hlo:∀k o,O k=some o->k<w.heap.size) (hO2:∀k,k<w.heap.size->O' k=O k):Part w' D r O' A d o:=by
 have Ab:∀v:Value,X7 O v o->X7 O' v o:=fun v hv g hg=>(hO _ _ (hv g hg)).trans (hv g hg)
 cases o using Own.elimE with
 | box=>exact⟨(hk r h.2).trans h.1,(hO _ _ h.2).trans h.2⟩
 | pipes=>exact⟨o5 h.1 (fun g hg=>hk g (h.2 g hg)),Ab _ h.2⟩
 | procs=>exact⟨o5 h.1 (fun g hg=>hk g (h.2 g hg)),Ab _ h.2⟩
 | gots i=>exact fun p s hp hs=>⟨o5 (h p s hp hs).1 (fun g hg=>hk g ((h p s hp hs).2 g hg)),Ab _ (h p s hp hs).2⟩
 | outs i=>exact fun p s hp hs=>⟨o5 (h p s hp hs).1 (fun g hg=>hk g ((h p s hp hs).2 g hg)),Ab _ (h p s hp hs).2⟩
 | pipe q=>exact fun x s hx hs=>(h x s hx hs).keep hk hO
 | got i j=>exact fun p s b a hp hs hb ha=>(h p s b a hp hs hb ha).keep hk hO2
 | out i k=>exact fun p s b a hp hs hb ha=>(h p s b a hp hs hb ha).keep hk hO2
 | sunk=>exact SOf.keep h hk hO2
 | aux=>exact hA w w' O O' h hk hO
structure RMem (w:World) (D r:Nat) (O:Nat->Option Own) (A:World->(Nat->Option Own)->Prop) (d:RD):Prop where
 lo:∀g o,O g=some o->D<=g/\g<w.heap.size
 base:∃w0:World,w0.heap.size=D/\Below D w0 w/\A2 w0 d.vN d.M.ns/\j9 w0 d.vF d.M.fs
 xlen:d.X.length=d.M.pipes.length
 plen:d.P.length=d.M.ps.length
 slen:∀(i:Nat) (p:SProc) (s:PSlot),d.M.ps[i]? = some p->d.P[i]? = some s->s.gs.length=p.got.length/\s.os.length=p.out.length
 aux:ar6 A
 part:∀o,Part w D r O A d o
theorem RMem.nodes {w:World} {D r:Nat} {O:Nat->Option Own} {A:World->(Nat->Option Own)->Prop} {d:RD} (h:RMem w D r O A d):A2 w d.vN d.M.ns/\j9 w d.vF d.M.fs:=by obtain⟨w0,h1,h2,h3,h4⟩:=h.base;subst h1;exact⟨h3.below h2,h4.below h2⟩
theorem RMem.le {w:World} {D r:Nat} {O:Nat->Option Own} {A:World->(Nat->Option Own)->Prop} {d:RD} (h:RMem w D r O A d):D<=w.heap.size:=by obtain⟨w0,h1,h2,_⟩:=h.base;have:=h2.size;omega
structure Touch (O:Nat->Option Own) (o:Own) (w w':World):Prop where
 os:w'.os=w.os
 tape:w'.tape=w.tape
 output:w'.output=w.output
 size:w.heap.size<=w'.heap.size
 block:∀k,k<w.heap.size->O k≠some o->w'.heap[k]? = w.heap[k]?
theorem Touch.of_below {O:Nat->Option Own} {o:Own} {w w':World} (h:Bq w w'):Touch O o w w':=⟨h.os,h.tape,h.output,h.size,fun k hk _=>h.block k hk⟩
theorem Touch.set {O:Nat->Option Own} {o:Own} {w w':World} (h:Touch O o w w') {a:Addr} {v:Value} (ha:O a.block=some o):Touch O o w (w'.setCell a v):=
 ⟨h.os,h.tape,h.output,by simpa using h.size,fun k hk hn=>(Below.heap_setCell _ _ _ _ (fun e=>hn (by rw[e];exact ha))).trans (h.block k hk hn)⟩
theorem Touch.refl (O:Nat->Option Own) (o:Own) (w:World):Touch O o w w:=⟨rfl,rfl,rfl,Nat.le_refl _,fun _ _ _=>rfl⟩
theorem Touch.below {w w':World} {D r:Nat} {O:Nat->Option Own} {A:World->(Nat->Option Own)->Prop} {d:RD} (h:RMem w D r O A d) {o:Own} (t:Touch O o w w'):Below D w w':=
 ⟨t.os,t.tape,t.output,t.size,fun k hk=>t.block k (by have:=h.le;omega) (fun e=>by have:=(h.lo k o e).1;omega)⟩
theorem RMem.upd {w w':World} {D r:Nat} {O O':Nat->Option Own} {A:World->(Nat->Option Own)->Prop} {d d':RD} (h:RMem w D r O A d) {o:Own} (t:Touch O o w w') (hO:∀k,k<w.heap.size->O' k=O k) (hlo:∀g o,O' g=some o->D<=g/\g<w'.heap.size)
 (hN:d'.vN=d.vN) (hF:d'.vF=d.vF) (hns:d'.M.ns=d.M.ns) (hfs:d'.M.fs=d.M.fs) (hxl:d'.X.length=d'.M.pipes.length) (hpl:d'.P.length=d'.M.ps.length)
 (hsl:∀(i:Nat) (p:SProc) (s:PSlot),d'.M.ps[i]? = some p->d'.P[i]? = some s->s.gs.length=p.got.length/\s.os.length=p.out.length)
 (Kp:∀o',o'≠o->Part w D r O A d o'->Part w D r O A d' o') (Ab:Part w' D r O' A d' o):RMem w' D r O' A d':=by
 have hb:=t.below h;obtain⟨w0,b1,b2,b3,b4⟩:=h.base;refine⟨hlo,⟨w0,b1,b2.trans hb,by rw[hN,hns];exact b3,by rw[hF,hfs];exact b4⟩,hxl,hpl,hsl,h.aux,fun o'=>?_⟩;by_cases e:o'=o
 . subst e;exact Ab
 . exact (Kp o' e (h.part o')).keep h.aux (fun k hk=>t.block k (h.lo k o' hk).2 (fun e2=>e (by rw[hk] at e2;injection e2))) (fun k o2 hk=>hO k (h.lo k o2 hk).2) (fun k o2 hk=>(h.lo k o2 hk).2) hO
end Go.Proofs.YtllgglolcgdehaaGreatDoor
namespace Go.Proofs.YtllgglolcgdehaaGreatDoor
open Go.RowKit Go.Gs
set_option linter.unusedVariables false
def RD.setPipe (d:RD) (q:Nat) (x:SPipe) (s:Sl):RD:=⟨d.M.setX q x,d.vN,d.vF,d.vX,d.vP,d.vI,d.vM,d.sS,d.X.set q s,d.P⟩
def RD.setProc (d:RD) (i:Nat) (p:SProc) (s:PSlot):RD:=⟨d.M.setP i p,d.vN,d.vF,d.vX,d.vP,d.vI,d.vM,d.sS,d.X,d.P.set i s⟩
def RD.setSunk (d:RD) (b:List UInt8) (s:Sl):RD:=⟨⟨d.M.ns,d.M.fs,d.M.pipes,d.M.ps,b⟩,d.vN,d.vF,d.vX,d.vP,d.vI,d.vM,s,d.X,d.P⟩
section
variable {w w':World} {D r:Nat} {O O':Nat->Option Own} {A:World->(Nat->Option Own)->Prop} {d:RD}
theorem RMem.grow (h:RMem w D r O A d) (hb:Bq w w') (hO:∀k,k<w.heap.size->O' k=O k) (hlo:∀g o,O' g=some o->w.heap.size<=g->g<w'.heap.size):RMem w' D r O' A d:=by
 have hle:=h.le;refine h.upd (o:=.aux) (Touch.of_below hb) hO (fun g o hg=>?_) rfl rfl rfl rfl h.xlen h.plen h.slen (fun _ _ hp=>hp) ?_
 .
  by_cases hgs:g<w.heap.size
  . have:=h.lo g o (by rw[<- hO g hgs];exact hg);have:=hb.size;omega
  . exact⟨by omega,hlo g o hg (by omega)⟩
 . exact (h.part .aux).keep h.aux (fun k hk=>hb.block k (h.lo k _ hk).2) (fun k o hk=>hO k (h.lo k o hk).2) (fun k o hk=>(h.lo k o hk).2) hO
theorem RMem.below (h:RMem w D r O A d) (hb:Bq w w'):RMem w' D r O A d:=h.grow hb (fun _ _=>rfl) (fun g o hg hge=>absurd (h.lo g o hg).2 (by omega))
theorem O5 {w:World} {k:Nat} {a b c d e f g:Value} {t:TypeId} (h:w.heap[k]? = some (.cells #[a,b,c,d,e,f,g] t (0,0))) :
 w.cell? ⟨k,0,none⟩=some a/\w.cell? ⟨k,1,none⟩=some b/\w.cell? ⟨k,2,none⟩=some c/\w.cell? ⟨k,3,none⟩=some d/\w.cell? ⟨k,4,none⟩=some e/\w.cell? ⟨k,5,none⟩=some f/\w.cell? ⟨k,6,none⟩=some g:=by
 refine⟨?_,?_,?_,?_,?_,?_,?_⟩
 all_goals
  rw[cell_of_row _ _ _ _ _ _ h]
  rfl
theorem RMem.box (h:RMem w D r O A d):w.heap[r]? = some (.cells #[d.vN,d.vF,d.vX,d.vP,sl d.M.sunk d.sS,d.vI,d.vM] 111 (0,0))/\O r=some .box:=h.part .box
theorem j8 {B:Nat} {e:TypeId} {size n:Nat} {v:Value} {xs:List Value} (h:w.ownsRow B e size v n xs):(∃ao cap,v=.slice ao n cap/\n<=cap/\cap<=maxLen)/\(n≠0 -> ∃g cap,v=.slice (some ⟨g,0,none⟩) n cap/\n<=cap/\cap<=9223372036854775807/\g<w.heap.size/\(∀j,j<n*size->w.cell? ⟨g,j,none⟩=xs[j]?) /\ ∀j,w.frozen? ⟨g,j,none⟩=false):=by
 rcases id h.2 with ⟨rfl,h0⟩ | ⟨g,cap,cur,rfl,hb,hg,h1,h2,h3,h4⟩
 . exact⟨⟨none,0,by rw[h0],by omega,by simp[maxLen]⟩,fun hn=>absurd h0 hn⟩
 . exact⟨⟨_,cap,rfl,h1,h2⟩,fun _=>⟨g,cap,rfl,h1,by unfold maxLen at h2;omega,(aSm hg).1,fun j hj=>h.cellAt j hj,fun j=>frozen_of_row _ _ _ _ _ hg⟩⟩
theorem RMem.pipeAt (h:RMem w D r O A d) {q:Nat} {x:SPipe} (hx:d.M.pipes[q]? = some x) :
 ∃g c s,d.vX=.slice (some ⟨g,0,none⟩) d.M.pipes.length c/\d.M.pipes.length<=c/\c<=9223372036854775807/\g<w.heap.size/\O g=some .pipes/\d.X[q]? = some s/\ROf w O (.pipe q) s x.b /\
  w.cell? ⟨g,q*4,none⟩=some (sl x.b s)/\w.cell? ⟨g,q*4+1,none⟩=some (.int .i64 x.room)/\w.cell? ⟨g,q*4+2,none⟩=some (.bool x.closed)/\w.cell? ⟨g,q*4+3,none⟩=some (.bool x.shut) /\ ∀j,w.frozen? ⟨g,j,none⟩=false:=by
 have hql:q<d.M.pipes.length:=(gSm hx).1;obtain⟨h1,h2⟩:=h.part .pipes;obtain⟨g,c,e,hc,hc2,hg,Ac,hf⟩:=(j8 h1).2 (by omega);obtain⟨s,hs⟩:∃s,d.X[q]? = some s:=⟨_,gEl (by rw[h.xlen];exact hql)⟩;have Aj:(A4 d.M.pipes d.X)[q]? = some (P8 x s):=ac4 hx hs;have hat:=ad1 _ q _ (M7 d.M.pipes d.X) Aj;refine⟨g,c,s,e,hc,hc2,hg,h2 g (by rw[e];rfl),hs,h.part (.pipe q) x s hx hs,?_,?_,?_,?_,hf⟩
 . rw[Ac _ (by omega)];exact hat 0 (by omega)
 . rw[Ac _ (by omega)];exact hat 1 (by omega)
 . rw[Ac _ (by omega)];exact hat 2 (by omega)
 . rw[Ac _ (by omega)];exact hat 3 (by omega)
theorem RMem.procAt (h:RMem w D r O A d) {i:Nat} {p:SProc} (hp:d.M.ps[i]? = some p) :
 ∃g c s,d.vP=.slice (some ⟨g,0,none⟩) d.M.ps.length c/\d.M.ps.length<=c/\c<=9223372036854775807/\g<w.heap.size/\O g=some .procs/\d.P[i]? = some s /\
  w.cell? ⟨g,i*5,none⟩=some s.gv/\w.cell? ⟨g,i*5+1,none⟩=some (.int .i64 p.pos)/\w.cell? ⟨g,i*5+2,none⟩=some s.ov/\w.cell? ⟨g,i*5+3,none⟩=some (.bool p.rd)/\w.cell? ⟨g,i*5+4,none⟩=some (.bool p.ov)/\(∀j,w.frozen? ⟨g,j,none⟩=false) /\
  w.ownsRow D 28 1 s.gv p.got.length (U9 p.got s.gs)/\w.ownsRow D 28 1 s.ov p.out.length (U9 p.out s.os)/\s.gs.length=p.got.length/\s.os.length=p.out.length:=by
 have hil:i<d.M.ps.length:=(gSm hp).1;obtain⟨h1,h2⟩:=h.part .procs;obtain⟨g,c,e,hc,hc2,hg,Ac,hf⟩:=(j8 h1).2 (by omega);obtain⟨s,hs⟩:∃s,d.P[i]? = some s:=⟨_,gEl (by rw[h.plen];exact hil)⟩;have Aj:(v6 d.M.ps d.P)[i]? = some (I6 p s):=ac4 hp hs;have hat:=ad1 _ i _ (M8 d.M.ps d.P) Aj;refine⟨g,c,s,e,hc,hc2,hg,h2 g (by rw[e];rfl),hs,?_,?_,?_,?_,?_,hf,(h.part (.gots i) p s hp hs).1,(h.part (.outs i) p s hp hs).1,(h.slen i p s hp hs).1,(h.slen i p s hp hs).2⟩
 . rw[Ac _ (by omega)];exact hat 0 (by omega)
 . rw[Ac _ (by omega)];exact hat 1 (by omega)
 . rw[Ac _ (by omega)];exact hat 2 (by omega)
 . rw[Ac _ (by omega)];exact hat 3 (by omega)
 . rw[Ac _ (by omega)];exact hat 4 (by omega)
theorem aC6 {l:List (List UInt8)} {ss:List Sl} {j:Nat} {b:List UInt8} {s:Sl} (hb:l[j]? = some b) (hs:ss[j]? = some s):(U9 l ss)[j]? = some (sl b s):=ac4 hb hs
theorem RMem.gotAt (h:RMem w D r O A d) {i j:Nat} {p:SProc} {s:PSlot} {b:List UInt8} (hp:d.M.ps[i]? = some p) (hs:d.P[i]? = some s) (hb:p.got[j]? = some b) :
 ∃g c a,s.gv=.slice (some ⟨g,0,none⟩) p.got.length c/\p.got.length<=c/\c<=9223372036854775807/\g<w.heap.size/\O g=some (.gots i)/\s.gs[j]? = some a/\SOf w O (.got i j) a b/\w.cell? ⟨g,j,none⟩=some (sl b a) /\ ∀j,w.frozen? ⟨g,j,none⟩=false:=by have hjl:j<p.got.length:=(gSm hb).1;obtain⟨h1,h2⟩:=h.part (.gots i) p s hp hs;obtain⟨g,c,e,hc,hc2,hg,Ac,hf⟩:=(j8 h1).2 (by omega);obtain⟨a,ha⟩:∃a,s.gs[j]? = some a:=⟨_,gEl (by rw[(h.slen i p s hp hs).1];exact hjl)⟩;exact⟨g,c,a,e,hc,hc2,hg,h2 g (by rw[e];rfl),ha,h.part (.got i j) p s b a hp hs hb ha,by rw[Ac _ (by omega)];exact aC6 hb ha,hf⟩
theorem RMem.outAt (h:RMem w D r O A d) {i j:Nat} {p:SProc} {s:PSlot} {b:List UInt8} (hp:d.M.ps[i]? = some p) (hs:d.P[i]? = some s) (hb:p.out[j]? = some b) :
 ∃g c a,s.ov=.slice (some ⟨g,0,none⟩) p.out.length c/\p.out.length<=c/\c<=9223372036854775807/\g<w.heap.size/\O g=some (.outs i)/\s.os[j]? = some a/\SOf w O (.out i j) a b/\w.cell? ⟨g,j,none⟩=some (sl b a) /\ ∀j,w.frozen? ⟨g,j,none⟩=false:=by have hjl:j<p.out.length:=(gSm hb).1;obtain⟨h1,h2⟩:=h.part (.outs i) p s hp hs;obtain⟨g,c,e,hc,hc2,hg,Ac,hf⟩:=(j8 h1).2 (by omega);obtain⟨a,ha⟩:∃a,s.os[j]? = some a:=⟨_,gEl (by rw[(h.slen i p s hp hs).2];exact hjl)⟩;exact⟨g,c,a,e,hc,hc2,hg,h2 g (by rw[e];rfl),ha,h.part (.out i j) p s b a hp hs hb ha,by rw[Ac _ (by omega)];exact aC6 hb ha,hf⟩
theorem bo4 {B:Nat} {v:Value} {l:List (List UInt8)} {ss:List Sl} (h:w.ownsRow B 28 1 v l.length (U9 l ss)) (hl:ss.length=l.length) (hs:∀(j:Nat) (b:List UInt8) (a:Sl),l[j]? = some b->ss[j]? = some a->Reads w (sl b a) b.length (b.map U)):RList w v U l:=by refine⟨U9 l ss,Reads.of_owns h,fun j b hb=>?_⟩;obtain⟨a,ha⟩:∃a,ss[j]? = some a:=⟨_,gEl (by rw[hl];exact (gSm hb).1)⟩;exact⟨_,aC6 hb ha,hs j b a hb ha⟩
theorem RMem.gots (h:RMem w D r O A d) {i:Nat} {p:SProc} {s:PSlot} (hp:d.M.ps[i]? = some p) (hs:d.P[i]? = some s):RList w s.gv U p.got:=
 bo4 (h.part (.gots i) p s hp hs).1 (h.slen i p s hp hs).1 (fun j b a hb ha=>(h.part (.got i j) p s b a hp hs hb ha).reads)
theorem RMem.outs (h:RMem w D r O A d) {i:Nat} {p:SProc} {s:PSlot} (hp:d.M.ps[i]? = some p) (hs:d.P[i]? = some s):RList w s.ov U p.out:=
 bo4 (h.part (.outs i) p s hp hs).1 (h.slen i p s hp hs).2 (fun j b a hb ha=>(h.part (.out i j) p s b a hp hs hb ha).reads)
theorem E0 {α:Type} {l:List α} {i j:Nat} {a:α} (h:i≠j):(l.set i a)[j]? = l[j]?:=by rw[List.getElem?_set,if_neg h]
theorem x8 {α:Type} {l:List α} {i:Nat} {a b:α} (h:l[i]? = some b):(l.set i a)[i]? = some a:=by rw[List.getElem?_set,if_pos rfl,if_pos (gSm h).1]
theorem an6 (h:RMem w D r O A d) (hs:w.heap.size<=w'.heap.size):∀g o,O g=some o->D<=g/\g<w'.heap.size:=fun g o hg=>⟨(h.lo g o hg).1,by have:=(h.lo g o hg).2;omega⟩
theorem aC7 (h:RMem w D r O A d) {i:Nat} {p':SProc} {s':PSlot} (h1:s'.gs.length=p'.got.length) (h2:s'.os.length=p'.out.length):∀(j:Nat) (p:SProc) (s:PSlot),(d.M.ps.set i p')[j]? = some p->(d.P.set i s')[j]? = some s->s.gs.length=p.got.length/\s.os.length=p.out.length:=by
 intro j p s hp hs;by_cases e:i=j
 .
  subst e;rw[List.getElem?_set,if_pos rfl] at hp hs;split at hp
  . split at hs
    . injection hp with hp;injection hs with hs;subst hp hs;exact⟨h1,h2⟩
    . cases hs
  . cases hp
 . rw[E0 e] at hp hs;exact h.slen j p s hp hs
theorem RMem.setPipe (h:RMem w D r O A d) {q g c:Nat} {x x':SPipe} {s':Sl} (hx:d.M.pipes[q]? = some x) (hv:d.vX=.slice (some ⟨g,0,none⟩) d.M.pipes.length c) (hg:O g=some .pipes) (hr:ROf w O (.pipe q) s' x'.b) :
 RMem ((((w.setCell ⟨g,q*4,none⟩ (sl x'.b s')).setCell ⟨g,q*4+1,none⟩ (.int .i64 x'.room)).setCell ⟨g,q*4+2,none⟩ (.bool x'.closed)).setCell ⟨g,q*4+3,none⟩ (.bool x'.shut)) D r O A (d.setPipe q x' s'):=by
 have hql:q<d.M.pipes.length:=(gSm hx).1;obtain⟨s,hs⟩:∃s,d.X[q]? = some s:=⟨_,gEl (by rw[h.xlen];exact hql)⟩;refine h.upd (o:=.pipes) ((((Touch.refl O .pipes w).set hg).set hg).set hg |>.set hg) (fun _ _=>rfl) (an6 h (by simp)) rfl rfl rfl rfl (by simpa[RD.setPipe,SMach.setX] using h.xlen) h.plen h.slen ?_ ?_
 .
  intro o' ho' hp
  cases o' using Own.elimE with
  | pipes=>exact absurd rfl ho'
  | pipe q'=>
   intro y t hy ht
   by_cases e:q=q'
   .
    subst e
    have e1:y=x':=by
     have:(d.M.pipes.set q x')[q]? = some y:=hy
     rw[x8 hx] at this
     injection this with this
     exact this.symm
    have e2:t=s':=by
     have:(d.X.set q s')[q]? = some t:=ht
     rw[x8 hs] at this
     injection this with this
     exact this.symm
    subst e1 e2
    exact hr
   . exact hp y t (by have:(d.M.pipes.set q x')[q']? = some y:=hy;rwa [E0 e] at this) (by have:(d.X.set q s')[q']? = some t:=ht;rwa [E0 e] at this)
  | box=>exact hp
  | procs=>exact hp
  | gots i=>exact hp
  | outs i=>exact hp
  | got i j=>exact hp
  | out i j=>exact hp
  | sunk=>exact hp
  | aux=>exact hp
 .
  obtain⟨h1,h2⟩:=h.part .pipes;refine⟨?_,h2⟩;have Aj:(A4 d.M.pipes d.X)[q]? = some (P8 x s):=ac4 hx hs;have hl:=M7 d.M.pipes d.X;rw[hv] at h1;have k0:=M6 h1 (q*4) (by omega) (sl x'.b s');have k1:=M6 k0 (q*4+1) (by omega) (.int .i64 x'.room);have k2:=M6 k1 (q*4+2) (by omega) (.bool x'.closed);have k3:=M6 k2 (q*4+3) (by omega) (.bool x'.shut);have e1:(((((A4 d.M.pipes d.X).flatten.set (q*4) (sl x'.b s')).set (q*4+1) (.int .i64 x'.room)).set (q*4+2) (.bool x'.closed)).set (q*4+3) (.bool x'.shut))=(A4 (d.M.pipes.set q x') (d.X.set q s')).flatten:=by
   have f0:=U8 _ q _ hl Aj 0 (sl x'.b s') (by omega);rw[Nat.add_zero] at f0;rw[f0];have hl1:∀r∈(A4 d.M.pipes d.X).set q ((P8 x s).set 0 (sl x'.b s')),r.length=4:=fun r hr=>by
    rcases List.mem_or_eq_of_mem_set hr with h | h
    . exact hl r h
    . rw[h];rfl
   rw[U8 _ q _ hl1 (x8 Aj) 1 (.int .i64 x'.room) (by omega),List.set_set];have hl2:∀r∈(A4 d.M.pipes d.X).set q (((P8 x s).set 0 (sl x'.b s')).set 1 (.int .i64 x'.room)),r.length=4:=fun r hr=>by
    rcases List.mem_or_eq_of_mem_set hr with h | h
    . exact hl r h
    . rw[h];rfl
   rw[U8 _ q _ hl2 (x8 Aj) 2 (.bool x'.closed) (by omega),List.set_set];have hl3:∀r∈(A4 d.M.pipes d.X).set q ((((P8 x s).set 0 (sl x'.b s')).set 1 (.int .i64 x'.room)).set 2 (.bool x'.closed)),r.length=4:=fun r hr=>by
    rcases List.mem_or_eq_of_mem_set hr with h | h
    . exact hl r h
    . rw[h];rfl
   rw[U8 _ q _ hl3 (x8 Aj) 3 (.bool x'.shut) (by omega),List.set_set];unfold A4;rw[<- ai8];rfl
  rw[e1] at k3;have hlen:(d.setPipe q x' s').M.pipes.length=d.M.pipes.length:=by simp[RD.setPipe,SMach.setX]
  show World.ownsRow _ D 66 4 d.vX (d.setPipe q x' s').M.pipes.length _;rw[hlen,hv];exact k3
theorem RMem.setClosed (h:RMem w D r O A d) {q g c:Nat} {x:SPipe} {s:Sl} (hx:d.M.pipes[q]? = some x) (hs:d.X[q]? = some s) (hv:d.vX=.slice (some ⟨g,0,none⟩) d.M.pipes.length c) (hg:O g=some .pipes) :
 RMem (w.setCell ⟨g,q*4+2,none⟩ (.bool true)) D r O A (d.setPipe q (Z8 x) s):=by
 have hql:q<d.M.pipes.length:=(gSm hx).1;refine h.upd (o:=.pipes) ((Touch.refl O .pipes w).set hg) (fun _ _=>rfl) (an6 h (by simp)) rfl rfl rfl rfl (by simpa[RD.setPipe,SMach.setX] using h.xlen) h.plen h.slen ?_ ?_
 .
  intro o' ho' hp
  cases o' using Own.elimE with
  | pipes=>exact absurd rfl ho'
  | pipe q'=>
   intro y t hy ht
   by_cases e:q=q'
   .
    subst e
    have e1:y=Z8 x:=by
     have:(d.M.pipes.set q (Z8 x))[q]? = some y:=hy
     rw[x8 hx] at this
     injection this with this
     exact this.symm
    have e2:t=s:=by
     have:(d.X.set q s)[q]? = some t:=ht
     rw[x8 hs] at this
     injection this with this
     exact this.symm
    subst e1 e2
    exact hp x t hx hs
   . exact hp y t (by have:(d.M.pipes.set q (Z8 x))[q']? = some y:=hy;rwa [E0 e] at this) (by have:(d.X.set q s)[q']? = some t:=ht;rwa [E0 e] at this)
  | box=>exact hp
  | procs=>exact hp
  | gots i=>exact hp
  | outs i=>exact hp
  | got i j=>exact hp
  | out i j=>exact hp
  | sunk=>exact hp
  | aux=>exact hp
 .
  obtain⟨h1,h2⟩:=h.part .pipes;refine⟨?_,h2⟩;have Aj:(A4 d.M.pipes d.X)[q]? = some (P8 x s):=ac4 hx hs;have hl:=M7 d.M.pipes d.X;rw[hv] at h1;have k0:=M6 h1 (q*4+2) (by omega) (.bool true);rw[U8 _ q _ hl Aj 2 (.bool true) (by omega)] at k0;have e1:(A4 d.M.pipes d.X).set q ((P8 x s).set 2 (.bool true))=A4 (d.M.pipes.set q (Z8 x)) (d.X.set q s):=by unfold A4;rw[<- ai8];rfl
  rw[e1] at k0;have hlen:(d.setPipe q (Z8 x) s).M.pipes.length=d.M.pipes.length:=by simp[RD.setPipe,SMach.setX]
  show World.ownsRow _ D 66 4 d.vX (d.setPipe q (Z8 x) s).M.pipes.length _;rw[hlen,hv];exact k0
theorem RMem.setNum (h:RMem w D r O A d) {i g c k:Nat} {p p':SProc} {s:PSlot} {u:Value} (hp:d.M.ps[i]? = some p) (hs:d.P[i]? = some s) (hv:d.vP=.slice (some ⟨g,0,none⟩) d.M.ps.length c) (hg:O g=some .procs) (hk:k<5) (Aj:(I6 p s).set k u=I6 p' s) (Bd:p'.got=p.got) (Ai:p'.out=p.out) :
 RMem (w.setCell ⟨g,i*5+k,none⟩ u) D r O A (d.setProc i p' s):=by
 have hil:i<d.M.ps.length:=(gSm hp).1;have hss:d.P.set i s=d.P:=by
  apply List.ext_getElem?;intro j;by_cases e:i=j
  . subst e;rw[x8 hs,hs]
  . rw[E0 e]
 have hpn:∀(j:Nat) (q:SProc),(d.M.ps.set i p')[j]? = some q -> ∃q0,d.M.ps[j]? = some q0/\q.got=q0.got/\q.out=q0.out:=by
  intro j q hq;by_cases e:i=j
  . subst e;rw[x8 hp] at hq;injection hq with hq;subst hq;exact⟨p,hp,Bd,Ai⟩
  . rw[E0 e] at hq;exact⟨q,hq,rfl,rfl⟩
 have hPs:(d.setProc i p' s).P=d.P:=hss;refine h.upd (o:=.procs) ((Touch.refl O .procs w).set hg) (fun _ _=>rfl) (an6 h (by simp)) rfl rfl rfl rfl h.xlen (by simpa[RD.setProc,SMach.setP] using h.plen) (aC7 h (by rw[Bd];exact (h.slen i p s hp hs).1) (by rw[Ai];exact (h.slen i p s hp hs).2)) ?_ ?_
 .
  intro o' ho' hpt
  cases o' using Own.elimE with
  | procs=>exact absurd rfl ho'
  | gots j=>
   intro q t hq ht
   rw[hPs] at ht
   obtain⟨q0,h1,h2,h3⟩:=hpn j q hq
   rw[h2];exact hpt q0 t h1 ht
  | outs j=>
   intro q t hq ht
   rw[hPs] at ht
   obtain⟨q0,h1,h2,h3⟩:=hpn j q hq
   rw[h3];exact hpt q0 t h1 ht
  | got j k=>
   intro q t b a hq ht hb ha
   rw[hPs] at ht
   obtain⟨q0,h1,h2,h3⟩:=hpn j q hq
   rw[h2] at hb;exact hpt q0 t b a h1 ht hb ha
  | out j k=>
   intro q t b a hq ht hb ha
   rw[hPs] at ht
   obtain⟨q0,h1,h2,h3⟩:=hpn j q hq
   rw[h3] at hb;exact hpt q0 t b a h1 ht hb ha
  | box=>exact hpt
  | pipes=>exact hpt
  | pipe q=>exact hpt
  | sunk=>exact hpt
  | aux=>exact hpt
 .
  obtain⟨h1,h2⟩:=h.part .procs;refine⟨?_,h2⟩;have hr0:(v6 d.M.ps d.P)[i]? = some (I6 p s):=ac4 hp hs;have hl:=M8 d.M.ps d.P;rw[hv] at h1;have k0:=M6 h1 (i*5+k) (by omega) u;rw[U8 _ i _ hl hr0 k u hk,Aj] at k0;have e1:(v6 d.M.ps d.P).set i (I6 p' s)=v6 (d.M.ps.set i p') (d.P.set i s):=by unfold v6;rw[<- ai8]
  rw[e1] at k0;have hlen:(d.setProc i p' s).M.ps.length=d.M.ps.length:=by simp[RD.setProc,SMach.setP]
  show World.ownsRow _ D 76 5 d.vP (d.setProc i p' s).M.ps.length _;rw[hlen,hv];exact k0
end
end Go.Proofs.YtllgglolcgdehaaGreatDoor
namespace Go.Proofs.YtllgglolcgdehaaGreatDoor
open Go.RowKit Go.Gs
set_option linter.unusedVariables false
section
variable {w w':World} {D r:Nat} {O O':Nat->Option Own} {A:World->(Nat->Option Own)->Prop} {d:RD}
def SProc.gotSet (p:SProc) (j:Nat) (b:List UInt8):SProc:=⟨p.got.set j b,p.pos,p.out,p.rd,p.ov⟩
def PSlot.gotSet (s:PSlot) (j:Nat) (a:Sl):PSlot:=⟨s.gv,s.ov,s.gs.set j a,s.os⟩
def PSlot.outSet (s:PSlot) (j:Nat) (a:Sl):PSlot:=⟨s.gv,s.ov,s.gs,s.os.set j a⟩
theorem aG9 (l:List (List UInt8)) (ss:List Sl) (j:Nat) (b:List UInt8) (a:Sl):(U9 l ss).set j (sl b a)=U9 (l.set j b) (ss.set j a):=ai8 l ss j b a
theorem ak2 {i:Nat} {p p':SProc} {s s':PSlot} (hp:d.M.ps[i]? = some p) (hs:d.P[i]? = some s) (Aj:I6 p' s'=I6 p s):v6 (d.M.ps.set i p') (d.P.set i s')=v6 d.M.ps d.P:=by
 unfold v6;rw[<- ai8,Aj];apply List.ext_getElem?;intro j;by_cases e:i=j
 . subst e;have:(List.zipWith I6 d.M.ps d.P)[i]? = some (I6 p s):=ac4 hp hs;rw[x8 this,this]
 . rw[E0 e]
theorem RMem.setGot (h:RMem w D r O A d) {i j g c:Nat} {p:SProc} {s:PSlot} {b0 b:List UInt8} {a:Sl} (hp:d.M.ps[i]? = some p) (hs:d.P[i]? = some s) (hb0:p.got[j]? = some b0) (hv:s.gv=.slice (some ⟨g,0,none⟩) p.got.length c) (hg:O g=some (.gots i)) (ha:SOf w O (.got i j) a b) :
 RMem (w.setCell ⟨g,j,none⟩ (sl b a)) D r O A (d.setProc i (SProc.gotSet p j b) (s.gotSet j a)):=by
 have hjl:j<p.got.length:=(gSm hb0).1;obtain⟨hl1,hl2⟩:=h.slen i p s hp hs;refine h.upd (o:=.gots i) ((Touch.refl O (.gots i) w).set hg) (fun _ _=>rfl) (an6 h (by simp)) rfl rfl rfl rfl h.xlen (by simpa[RD.setProc,SMach.setP] using h.plen) (aC7 h (by simpa[SProc.gotSet,PSlot.gotSet] using hl1) hl2) ?_ ?_
 .
  intro o' ho' hpt
  cases o' using Own.elimE with
  | procs=>
   refine⟨?_,hpt.2⟩
   have e1:v6 (d.setProc i (SProc.gotSet p j b) (s.gotSet j a)).M.ps (d.setProc i (SProc.gotSet p j b) (s.gotSet j a)).P=v6 d.M.ps d.P:=ak2 hp hs rfl
   have hlen:(d.setProc i (SProc.gotSet p j b) (s.gotSet j a)).M.ps.length=d.M.ps.length:=by simp[RD.setProc,SMach.setP]
   rw[e1,hlen]
   exact hpt.1
  | gots i'=>
   have hne:i≠i':=fun e=>ho' (by rw[e])
   intro q t hq ht
   exact hpt q t (by have:(d.M.ps.set i (SProc.gotSet p j b))[i']? = some q:=hq;rwa [E0 hne] at this) (by have:(d.P.set i (s.gotSet j a))[i']? = some t:=ht;rwa [E0 hne] at this)
  | outs i'=>
   intro q t hq ht
   by_cases e:i=i'
   . subst e
     have e1:SProc.gotSet p j b=q:=by have:(d.M.ps.set i (SProc.gotSet p j b))[i]? = some q:=hq;rw[x8 hp] at this;injection this
     have e2:s.gotSet j a=t:=by have:(d.P.set i (s.gotSet j a))[i]? = some t:=ht;rw[x8 hs] at this;injection this
     subst e1 e2
     exact hpt p s hp hs
   . exact hpt q t (by have:(d.M.ps.set i (SProc.gotSet p j b))[i']? = some q:=hq;rwa [E0 e] at this) (by have:(d.P.set i (s.gotSet j a))[i']? = some t:=ht;rwa [E0 e] at this)
  | got i' j'=>
   intro q t b' a' hq ht hb' ha'
   by_cases e:i=i'
   .
    subst e
    have e1:SProc.gotSet p j b=q:=by have:(d.M.ps.set i (SProc.gotSet p j b))[i]? = some q:=hq;rw[x8 hp] at this;injection this
    have e2:s.gotSet j a=t:=by have:(d.P.set i (s.gotSet j a))[i]? = some t:=ht;rw[x8 hs] at this;injection this
    subst e1 e2
    by_cases ej:j=j'
    .
     subst ej
     have e3:b=b':=by have:(p.got.set j b)[j]? = some b':=hb';rw[x8 hb0] at this;injection this
     have e4:a=a':=by
      have:(s.gs.set j a)[j]? = some a':=ha'
      rw[x8 (gEl (by rw[hl1];exact hjl))] at this
      injection this
     subst e3 e4
     exact ha
    . exact hpt p s b' a' hp hs (by have:(p.got.set j b)[j']? = some b':=hb';rwa [E0 ej] at this) (by have:(s.gs.set j a)[j']? = some a':=ha';rwa [E0 ej] at this)
   . exact hpt q t b' a' (by have:(d.M.ps.set i (SProc.gotSet p j b))[i']? = some q:=hq;rwa [E0 e] at this) (by have:(d.P.set i (s.gotSet j a))[i']? = some t:=ht;rwa [E0 e] at this) hb' ha'
  | out i' k=>
   intro q t b' a' hq ht hb' ha'
   by_cases e:i=i'
   . subst e
     have e1:SProc.gotSet p j b=q:=by have:(d.M.ps.set i (SProc.gotSet p j b))[i]? = some q:=hq;rw[x8 hp] at this;injection this
     have e2:s.gotSet j a=t:=by have:(d.P.set i (s.gotSet j a))[i]? = some t:=ht;rw[x8 hs] at this;injection this
     subst e1 e2
     exact hpt p s b' a' hp hs hb' ha'
   . exact hpt q t b' a' (by have:(d.M.ps.set i (SProc.gotSet p j b))[i']? = some q:=hq;rwa [E0 e] at this) (by have:(d.P.set i (s.gotSet j a))[i']? = some t:=ht;rwa [E0 e] at this) hb' ha'
  | box=>exact hpt
  | pipes=>exact hpt
  | pipe q=>exact hpt
  | sunk=>exact hpt
  | aux=>exact hpt
 .
  intro q t hq ht;have e1:SProc.gotSet p j b=q:=by have:(d.M.ps.set i (SProc.gotSet p j b))[i]? = some q:=hq;rw[x8 hp] at this;injection this
  have e2:s.gotSet j a=t:=by have:(d.P.set i (s.gotSet j a))[i]? = some t:=ht;rw[x8 hs] at this;injection this
  subst e1 e2;obtain⟨h1,h2⟩:=h.part (.gots i) p s hp hs;refine⟨?_,h2⟩;rw[hv] at h1;have k0:=M6 h1 j (by omega) (sl b a);rw[aG9] at k0;show World.ownsRow _ D 28 1 s.gv (p.got.set j b).length (U9 (p.got.set j b) (s.gs.set j a));rw[List.length_set,hv];exact k0
theorem RMem.setOut (h:RMem w D r O A d) {i j g c:Nat} {p:SProc} {s:PSlot} {b0 b:List UInt8} {a:Sl} (hp:d.M.ps[i]? = some p) (hs:d.P[i]? = some s) (hb0:p.out[j]? = some b0) (hv:s.ov=.slice (some ⟨g,0,none⟩) p.out.length c) (hg:O g=some (.outs i)) (ha:SOf w O (.out i j) a b) :
 RMem (w.setCell ⟨g,j,none⟩ (sl b a)) D r O A (d.setProc i (p.setOut j b) (s.outSet j a)):=by
 have hjl:j<p.out.length:=(gSm hb0).1;obtain⟨hl1,hl2⟩:=h.slen i p s hp hs;refine h.upd (o:=.outs i) ((Touch.refl O (.outs i) w).set hg) (fun _ _=>rfl) (an6 h (by simp)) rfl rfl rfl rfl h.xlen (by simpa[RD.setProc,SMach.setP] using h.plen) (aC7 h hl1 (by simpa[SProc.setOut,PSlot.outSet] using hl2)) ?_ ?_
 .
  intro o' ho' hpt
  cases o' using Own.elimE with
  | procs=>
   refine⟨?_,hpt.2⟩
   have e1:v6 (d.setProc i (p.setOut j b) (s.outSet j a)).M.ps (d.setProc i (p.setOut j b) (s.outSet j a)).P=v6 d.M.ps d.P:=ak2 hp hs rfl
   have hlen:(d.setProc i (p.setOut j b) (s.outSet j a)).M.ps.length=d.M.ps.length:=by simp[RD.setProc,SMach.setP]
   rw[e1,hlen]
   exact hpt.1
  | outs i'=>
   have hne:i≠i':=fun e=>ho' (by rw[e])
   intro q t hq ht
   exact hpt q t (by have:(d.M.ps.set i (p.setOut j b))[i']? = some q:=hq;rwa [E0 hne] at this) (by have:(d.P.set i (s.outSet j a))[i']? = some t:=ht;rwa [E0 hne] at this)
  | gots i'=>
   intro q t hq ht
   by_cases e:i=i'
   . subst e
     have e1:p.setOut j b=q:=by have:(d.M.ps.set i (p.setOut j b))[i]? = some q:=hq;rw[x8 hp] at this;injection this
     have e2:s.outSet j a=t:=by have:(d.P.set i (s.outSet j a))[i]? = some t:=ht;rw[x8 hs] at this;injection this
     subst e1 e2
     exact hpt p s hp hs
   . exact hpt q t (by have:(d.M.ps.set i (p.setOut j b))[i']? = some q:=hq;rwa [E0 e] at this) (by have:(d.P.set i (s.outSet j a))[i']? = some t:=ht;rwa [E0 e] at this)
  | out i' j'=>
   intro q t b' a' hq ht hb' ha'
   by_cases e:i=i'
   .
    subst e
    have e1:p.setOut j b=q:=by have:(d.M.ps.set i (p.setOut j b))[i]? = some q:=hq;rw[x8 hp] at this;injection this
    have e2:s.outSet j a=t:=by have:(d.P.set i (s.outSet j a))[i]? = some t:=ht;rw[x8 hs] at this;injection this
    subst e1 e2
    by_cases ej:j=j'
    .
     subst ej
     have e3:b=b':=by have:(p.out.set j b)[j]? = some b':=hb';rw[x8 hb0] at this;injection this
     have e4:a=a':=by
      have:(s.os.set j a)[j]? = some a':=ha'
      rw[x8 (gEl (by rw[hl2];exact hjl))] at this
      injection this
     subst e3 e4
     exact ha
    . exact hpt p s b' a' hp hs (by have:(p.out.set j b)[j']? = some b':=hb';rwa [E0 ej] at this) (by have:(s.os.set j a)[j']? = some a':=ha';rwa [E0 ej] at this)
   . exact hpt q t b' a' (by have:(d.M.ps.set i (p.setOut j b))[i']? = some q:=hq;rwa [E0 e] at this) (by have:(d.P.set i (s.outSet j a))[i']? = some t:=ht;rwa [E0 e] at this) hb' ha'
  | got i' k=>
   intro q t b' a' hq ht hb' ha'
   by_cases e:i=i'
   . subst e
     have e1:p.setOut j b=q:=by have:(d.M.ps.set i (p.setOut j b))[i]? = some q:=hq;rw[x8 hp] at this;injection this
     have e2:s.outSet j a=t:=by have:(d.P.set i (s.outSet j a))[i]? = some t:=ht;rw[x8 hs] at this;injection this
     subst e1 e2
     exact hpt p s b' a' hp hs hb' ha'
   . exact hpt q t b' a' (by have:(d.M.ps.set i (p.setOut j b))[i']? = some q:=hq;rwa [E0 e] at this) (by have:(d.P.set i (s.outSet j a))[i']? = some t:=ht;rwa [E0 e] at this) hb' ha'
  | box=>exact hpt
  | pipes=>exact hpt
  | pipe q=>exact hpt
  | sunk=>exact hpt
  | aux=>exact hpt
 .
  intro q t hq ht;have e1:p.setOut j b=q:=by have:(d.M.ps.set i (p.setOut j b))[i]? = some q:=hq;rw[x8 hp] at this;injection this
  have e2:s.outSet j a=t:=by have:(d.P.set i (s.outSet j a))[i]? = some t:=ht;rw[x8 hs] at this;injection this
  subst e1 e2;obtain⟨h1,h2⟩:=h.part (.outs i) p s hp hs;refine⟨?_,h2⟩;rw[hv] at h1;have k0:=M6 h1 j (by omega) (sl b a);rw[aG9] at k0;show World.ownsRow _ D 28 1 s.ov (p.out.set j b).length (U9 (p.out.set j b) (s.os.set j a));rw[List.length_set,hv];exact k0
theorem RMem.setSunk (h:RMem w D r O A d) {b:List UInt8} {a:Sl} (ha:SOf w O .sunk a b):RMem (w.setCell ⟨r,4,none⟩ (sl b a)) D r O A (d.setSunk b a):=by
 have hbx:=h.box;refine h.upd (o:=.box) ((Touch.refl O .box w).set hbx.2) (fun _ _=>rfl) (an6 h (by simp)) rfl rfl rfl rfl h.xlen h.plen h.slen ?_ ?_
 .
  intro o' ho' hpt
  cases o' using Own.elimE with
  | box=>exact absurd rfl ho'
  | sunk=>exact ha
  | pipes=>exact hpt
  | procs=>exact hpt
  | gots i=>exact hpt
  | outs i=>exact hpt
  | pipe q=>exact hpt
  | got i j=>exact hpt
  | out i j=>exact hpt
  | aux=>exact hpt
 . refine⟨?_,hbx.2⟩;rw[setCell_eq_setRow w r 4 _ _ (0,0) _ hbx.1];rw[setRow_heap w r _ _ _ _ hbx.1];rfl
structure Ext (O O':Nat->Option Own) (o:Own) (w w':World):Prop where
 old:∀k,k<w.heap.size->O' k=O k
 new:∀g o',O' g=some o'->w.heap.size<=g->g<w'.heap.size
theorem src_of {tx:TypeId} (hk:Tryz.prog.underlying tx=some (.slice 5)) {ax:Option Addr} {cx:Nat} {c:List UInt8} (hr:Reads w (.slice ax c.length cx) c.length (c.map U)):Src Tryz.prog 1 tx (.slice ax c.length cx) c.length (c.map U) w:=by
 obtain⟨h1,ao,cap,e,h2,h3,h4⟩:=hr;injection e with e1 e2 e3;subst e1 e3
 cases hc:c with
 | nil=>
  cases ax with
  | none=>exact Src.ofNil w hk cx
  | some a=>exact Src.ofSlice w hk a 0 cx [] rfl (fun j u h=>by simp at h) (fun u h=>by cases h)
 | cons x l=>
  obtain⟨b,off,rfl,Ac⟩:=h4 (by rw[hc];simp)
  rw[<- hc]
  refine Src.ofSlice w hk ⟨b,off,none⟩ c.length cx (c.map U) (by simp) (fun j u hj=>?_) aP7
  rw[addP]
  exact Ac j u hj
theorem bo5 {s:Sl} {b:List UInt8} {o:Own} (h:SOf w O o s b):(Builtin.firstCells 1 b.length (sl b s)).run Tryz.prog w.drew=.ok (b.map U).toArray w.drew:=by
 have hr:=h.reads;obtain⟨h1,ao,cap,e,h2,h3,h4⟩:=hr;unfold sl at e ⊢;injection e with e1 e2 e3
 cases hb:b with
 | nil=>
  cases hs:s.1 with
  | none=>exact run_firstCells_none w.drew 1 0 0 s.2
  | some a=>exact run_firstCells_some w.drew 1 0 a 0 s.2 [] rfl (fun j v h=>by simp at h)
 | cons x l=>
  obtain⟨g,off,e4,hc⟩:=h4 (by rw[hb];simp)
  rw[<- hb]
  rw[e1,e4]
  refine run_firstCells_some w.drew 1 b.length ⟨g,off,none⟩ b.length s.2 (b.map U) (by simp) (fun j u hj=>?_)
  rw[addP]
  have:=hc j u hj
  simpa using this
theorem an7 {g:Nat} {t:TypeId}:∀(vs:List Value) (o:Nat) (w:World) (cur:Array Value),w.heap[g]? = some (.cells cur t (0,0))->o+vs.length<=cur.size ->
 ∃cur',(w.setCells g o vs).heap[g]? = some (.cells cur' t (0,0))/\cur'.size=cur.size /\ ∀j,cur'[j]? = if o<=j/\j<o+vs.length then vs[j-o]? else cur[j]?
 | [],o,w,cur,h,_=>⟨cur,h,rfl,fun j=>by rw[if_neg (by simp)]⟩
 | v::vs,o,w,cur,h,hl=>by
  simp only[List.length_cons] at hl
  have h1:(w.setCell ⟨g,o,none⟩ v).heap[g]? = some (.cells (cur.setIfInBounds o v) t (0,0)):=by
   rw[setCell_eq_setRow w g o cur t (0,0) v h]
   exact setRow_heap w g cur _ t _ h
  obtain⟨cur',h2,h3,h4⟩:=an7 vs (o+1) (w.setCell ⟨g,o,none⟩ v) _ h1 (by simp;omega)
  refine⟨cur',h2,by simpa using h3,fun j=>?_⟩
  rw[h4 j]
  by_cases hj:o<=j/\j<o+(v::vs).length
  .
   rw[if_pos hj]
   simp only[List.length_cons] at hj
   by_cases e:j=o
   . subst e
     rw[if_neg (by omega),Array.getElem?_setIfInBounds,if_pos rfl,if_pos (by omega)]
     simp
   . rw[if_pos (by omega),show j-o=(j-(o+1))+1 by omega,List.getElem?_cons_succ]
  . rw[if_neg hj]
    simp only[List.length_cons] at hj
    rw[if_neg (by omega),Array.getElem?_setIfInBounds,if_neg (by omega)]
theorem ag9 (g:Nat):∀(vs:List Value) (o:Nat) (w:World),(w.setCells g o vs).tape=w.tape
 | [],_,_=>rfl
 | v::vs,o,w=>(ag9 g vs (o+1) (w.setCell ⟨g,o,none⟩ v)).trans rfl
theorem an8 {xs:List Value} {off n:Nat} {ys:List Value} (hn:ys.length=n) (h:∀j,j<n->xs[off+j]? = ys[j]?):(xs.drop off).take n=ys:=by
 apply List.ext_getElem?;intro j;rw[List.getElem?_take];by_cases hj:j<n
 . rw[if_pos hj,List.getElem?_drop];exact h j hj
 . rw[if_neg hj,List.getElem?_eq_none (by omega)]
theorem bg8 {xs:List Value} {off n:Nat} {ys:List Value} (h:(xs.drop off).take n=ys) {j:Nat} (hj:j<n):xs[off+j]? = ys[j]?:=by rw[<- h,List.getElem?_take,if_pos hj,List.getElem?_drop]
theorem aQ1 {s:Sl} {b c:List UInt8} {o:Own} (h:SOf w O o s b) (hlo:∀g o,O g=some o->g<w.heap.size) (ty:TypeId) (ht:Tryz.prog.underlying 28 = some (.slice 5)) {ax:Option Addr} {cx:Nat} (hr:Reads w (.slice ax c.length cx) c.length (c.map U)) (hl:b.length+c.length<=140737488355328) :
 ∃s' w' O',(Builtin.append_ #[28,28] ty #[sl b s,.slice ax c.length cx]).run Tryz.prog w=.ok (sl (b++c) s') w'/\Ext O O' o w w'/\Touch O o w w'/\SOf w' O' o s' (b++c)/\SOf w' O' o s b:=by
 obtain⟨i0,hi,hi0,hi1,hi2⟩:=info_parts bg7;have Lm:=src_of (tx:=28) ht hr;have hle:b.length<=s.2:=by obtain⟨_,ao,cap,e,h2,_,_⟩:=h.reads;unfold sl at e;injection e with e1 e2 e3;omega
 by_cases h0:c=[]
 .
  subst h0;refine⟨s,w,O,?_,⟨fun _ _=>rfl,fun g o' hg hge=>?_⟩,Touch.refl _ _ _,by rw[List.append_nil];exact h,h⟩
  . have:=run_append_nothing (P:=Tryz.prog) w 28 28 ty 5 i0 ht hi s.1 b.length s.2 hle (.slice ax 0 cx) (by rw[hi1];exact Lm);rw[List.append_nil];exact this
  . exact absurd (hlo g o' hg) (by omega)
 .
  have hc0:0<c.length:=List.length_pos_iff.2 h0;by_cases Ag:b.length+c.length<=s.2
  .
   rcases id h with ⟨rfl,rfl⟩ | ⟨g,off,cur,hs,ho,hg,h1,h2,h3,h4⟩
   . have:nilS.2=0:=rfl;omega
   .
    have hgl:g<w.heap.size:=(aSm hg).1;obtain⟨cur',hg',Iw,Ix⟩:=an7 (c.map U) (off+b.length*1) w cur hg (by rw[List.length_map];omega)
    have Ao:=run_append_room_src (P:=Tryz.prog) w 28 28 ty 5 i0 ht hi g off b.length s.2 (.slice ax c.length cx) c.length (c.map U) (by rw[hi1];exact Lm) Ag (fun j hj=>by
     rw[hi1,cell_of_row _ _ _ _ _ _ hg,List.length_map] at *
     rw[Array.getElem?_eq_getElem (by omega)]
     rfl) (fun j hj=>frozen_of_row _ _ _ _ _ hg)
    rw[hi1] at Ao;have hT:Touch O o w (w.setCells g (off+b.length*1) (c.map U)):=by have hk:=World.keptBut_setCells g (may:=fun p=>p.block=g) (c.map U) (off+b.length*1) w (fun _ _=>rfl);refine⟨World.os_setCells _ _ _ _,ag9 _ _ _ _,World.output_setCells _ _ _ _,hk.size,fun k hk2 hn=>World.heap_setCells_other w g _ _ hk2 (fun e=>hn (by rw[e];exact ho))⟩
    have hold:∀j,j<b.length->cur'.toList[off+j]? = (b.map U)[j]?:=by intro j hj;rw[Array.getElem?_toList,Ix,if_neg (by omega),<- Array.getElem?_toList];exact bg8 h4 hj
    refine⟨s,_,O,?_,⟨fun _ _=>rfl,fun g' o' hg' hge=>absurd (hlo g' o' hg') (by omega)⟩,hT,.inr ⟨g,off,cur',hs,ho,hg',?_,h2,by omega,?_⟩,.inr ⟨g,off,cur',hs,ho,hg',h1,h2,by omega,?_⟩⟩
    . unfold sl;rw[hs,List.length_append];exact Ao
    . rw[List.length_append];exact Ag
    . refine an8 (by simp) (fun j hj=>?_);rw[List.length_append] at hj;rw[List.map_append];by_cases hjb:j<b.length
      . rw[List.getElem?_append_left (by rw[List.length_map];exact hjb)];exact hold j hjb
      . rw[List.getElem?_append_right (by rw[List.length_map];omega),Array.getElem?_toList,Ix,if_pos (by rw[List.length_map];omega),List.length_map];rw[show off+j-(off+b.length*1)=j-b.length by omega]
    . exact an8 (by simp) hold
  .
   have Ao:=run_append_grow_src (P:=Tryz.prog) w 28 28 ty 5 i0 (.int .u8 0) ht hi hi0 s.1 b.length s.2 (b.map U) (by rw[hi1];exact bo5 h) (.slice ax c.length cx) c.length (c.map U) (by rw[hi1];exact Lm) (by omega) (by omega) (growslice_fits (by omega) (by rw[hi2];omega));have hge:=grownCap_ge w (b.length+c.length) s.2 5;have hcm:grownCap w (b.length+c.length) s.2 5 <= maxLen:=grownCap_le_maxLen w (b.length+c.length) s.2 5 (by unfold maxLen;omega);generalize grownCap w (b.length+c.length) s.2 5 = GC at *;obtain⟨cur,Tz⟩:=qE (((b.map U++c.map U).toArray++Builtin.zeroCells (Value.int .u8 0).cells (GC-(b.length+c.length))));rw[<- Tz] at Ao;have Bo:(w.drew.alloc (.cells cur 5)).heap[w.heap.size]? = some (.cells cur 5 (0,0)):=heap_alloc_new w.drew _;have Aa:Bq w (w.drew.alloc (.cells cur 5)):=((Below.refl _ w).drew).alloc (Nat.le_refl _) _
   have hEq:∀k,k<w.heap.size->(if k=w.heap.size then some o else O k)=O k:=fun k hk=>by rw[if_neg (by omega)]
   refine⟨(some ⟨w.heap.size,0,none⟩,GC),_,fun k=>if k=w.heap.size then some o else O k,?_,⟨hEq,fun g' o' hg' hge2=>?_⟩,Touch.of_below Aa,.inr ⟨w.heap.size,0,cur,rfl,by simp,Bo,by rw[List.length_append];exact hge,hcm,?_,?_⟩,h.keep (fun k hk=>Aa.block k (hlo k o hk)) hEq⟩
   . unfold sl;rw[List.length_append];exact Ao
   . by_cases e:g'=w.heap.size
     . subst e;exact (aSm Bo).1
     . rw[if_neg e] at hg';exact absurd (hlo g' o' hg') (by omega)
   . rw[Tz,Array.size_append,size_zeroCells];simp[Value.cells];omega
   . rw[Tz,List.drop_zero,Array.toList_append];simp only;rw[<- List.map_append,List.take_append_of_le_length (by simp)];rw[List.take_of_length_le (by simp)]
theorem RMem.append (h:RMem w D r O A d) {o:Own} {s:Sl} {b c:List UInt8} (hS:SOf w O o s b) (Xk:∀w1 O1,SOf w1 O1 o s b->Part w1 D r O1 A d o) {ax:Option Addr} {cx:Nat} (hr:Reads w (.slice ax c.length cx) c.length (c.map U)) (hl:b.length+c.length<=140737488355328) (ty:TypeId) :
 ∃s' w' O',(Builtin.append_ #[28,28] ty #[sl b s,.slice ax c.length cx]).run Tryz.prog w=.ok (sl (b++c) s') w'/\RMem w' D r O' A d/\SOf w' O' o s' (b++c)/\Touch O o w w'/\(∀k,k<w.heap.size->O' k=O k):=by
 obtain⟨s',w',O',Ao,he,ht,h1,h2⟩:=aQ1 hS (fun g o hg=>(h.lo g o hg).2) ty Tryz.underlying28 hr hl;refine⟨s',w',O',Ao,h.upd ht he.old (fun g o' hg=>?_) rfl rfl rfl rfl h.xlen h.plen h.slen (fun _ _ hp=>hp) (Xk w' O' h2),h1,ht,he.old⟩;by_cases hgl:g<w.heap.size
 . have:=h.lo g o' (by rw[<- he.old g hgl];exact hg);have:=ht.size;omega
 . have:=he.new g o' hg (by omega);have:=h.le;omega
theorem RMem.appendGot (h:RMem w D r O A d) {i j:Nat} {p:SProc} {s:PSlot} {b c:List UInt8} {a:Sl} (hp:d.M.ps[i]? = some p) (hs:d.P[i]? = some s) (hb:p.got[j]? = some b) (ha:s.gs[j]? = some a) {ax:Option Addr} {cx:Nat} (hr:Reads w (.slice ax c.length cx) c.length (c.map U)) (hl:b.length+c.length<=140737488355328) (ty:TypeId) :
 ∃s' w' O',(Builtin.append_ #[28,28] ty #[sl b a,.slice ax c.length cx]).run Tryz.prog w=.ok (sl (b++c) s') w'/\RMem w' D r O' A d/\SOf w' O' (.got i j) s' (b++c)/\Touch O (.got i j) w w'/\(∀k,k<w.heap.size->O' k=O k):=
 h.append (h.part (.got i j) p s b a hp hs hb ha) (fun w1 O1 h1 p' s' b' a' hp' hs' hb' ha'=>by
  rw[hp] at hp';injection hp' with e1;subst e1
  rw[hs] at hs';injection hs' with e2;subst e2
  rw[hb] at hb';injection hb' with e3;subst e3
  rw[ha] at ha';injection ha' with e4;subst e4
  exact h1) hr hl ty
theorem RMem.appendOut (h:RMem w D r O A d) {i j:Nat} {p:SProc} {s:PSlot} {b c:List UInt8} {a:Sl} (hp:d.M.ps[i]? = some p) (hs:d.P[i]? = some s) (hb:p.out[j]? = some b) (ha:s.os[j]? = some a) {ax:Option Addr} {cx:Nat} (hr:Reads w (.slice ax c.length cx) c.length (c.map U)) (hl:b.length+c.length<=140737488355328) (ty:TypeId) :
 ∃s' w' O',(Builtin.append_ #[28,28] ty #[sl b a,.slice ax c.length cx]).run Tryz.prog w=.ok (sl (b++c) s') w'/\RMem w' D r O' A d/\SOf w' O' (.out i j) s' (b++c)/\Touch O (.out i j) w w'/\(∀k,k<w.heap.size->O' k=O k):=
 h.append (h.part (.out i j) p s b a hp hs hb ha) (fun w1 O1 h1 p' s' b' a' hp' hs' hb' ha'=>by
  rw[hp] at hp';injection hp' with e1;subst e1
  rw[hs] at hs';injection hs' with e2;subst e2
  rw[hb] at hb';injection hb' with e3;subst e3
  rw[ha] at ha';injection ha' with e4;subst e4
  exact h1) hr hl ty
theorem RMem.appendSunk (h:RMem w D r O A d) {c:List UInt8} {ax:Option Addr} {cx:Nat} (hr:Reads w (.slice ax c.length cx) c.length (c.map U)) (hl:d.M.sunk.length+c.length<=140737488355328) (ty:TypeId) :
 ∃s' w' O',(Builtin.append_ #[28,28] ty #[sl d.M.sunk d.sS,.slice ax c.length cx]).run Tryz.prog w=.ok (sl (d.M.sunk++c) s') w'/\RMem w' D r O' A d/\SOf w' O' .sunk s' (d.M.sunk++c)/\Touch O .sunk w w'/\(∀k,k<w.heap.size->O' k=O k):=
 h.append (h.part .sunk) (fun w1 O1 h1=>h1) hr hl ty
end
end Go.Proofs.YtllgglolcgdehaaGreatDoor
namespace Go.Gs
open Go.RowKit
set_option linter.unusedVariables false
theorem ah0 (bss:List (List UInt8)):(ended (bss.map lines).flatten).length<=bss.flatten.length+bss.length:=by
 induction bss with
 | nil=>simp[ended]
 | cons b bss ih=>
  have:=E5 b
  simp only[List.map_cons,List.flatten_cons,I1,List.length_append,List.length_cons]
  omega
theorem ac5 (bss:List (List UInt8)):(bss.map lines).flatten.length<=bss.flatten.length:=by
 induction bss with
 | nil=>simp
 | cons b bss ih=>
  have:=G5 b
  simp only[List.map_cons,List.flatten_cons,List.length_append]
  omega
theorem ar7 {how:Int} {c:Cmd} (h:jchk how c=0):how=4->chk c=0:=by intro e;unfold jchk at h;rw[if_neg (by omega),if_pos e] at h;exact h
theorem ba1 (n:Nat) (h:n<=999999):(Lib.itoa (n:Int)).length<=6:=by unfold Lib.itoa;rw[if_neg (by omega)];exact ay3 5 _ (by simp;omega)
theorem al3 (c:Cmd) (h:chk c=0) (ls:List (List UInt8)) (hl:ls.length<=999999):(ended (made c ls)).length<=(ended ls).length+7:=by
 have hk:=af7 c h;by_cases e8:c.kind=8
 . rw[aP3 c e8];have:=ba1 ls.length hl;simp[ended];omega
 have:c.kind=1\/c.kind=2\/c.kind=3\/c.kind=4\/c.kind=5\/c.kind=6\/c.kind=7\/c.kind=9\/c.kind=10:=by omega
 rcases this with e | e | e | e | e | e | e | e | e
 . rw[made1 c e];have:=A6 (List.filter_sublist (p:=fun s=>Lib.contains s c.word) (l:=ls));omega
 . rw[made2 c e];have:=A6 (List.filter_sublist (p:=fun s=>!Lib.contains s c.word) (l:=ls));omega
 . rw[made3 c e];have:=I2 (Y7 (c.word.getD 0 0) (c.word.getD 1 0)) (fun s=>by simp[Y7]) ls;omega
 . rw[bn6 c e];have:=I2 (P7 c.n) (ar1 c.n) ls;omega
 . rw[bn8 c e];have:=I2 List.reverse (fun s=>by simp) ls;omega
 . rw[aC2 c e];have:=ab0 (F9 ls);omega
 . rw[aZ9 c e];have:=A6 (ad5 ls);omega
 . rw[aJ9 c e];have:=A6 (List.take_sublist c.n.toNat ls);omega
 . rw[aG7 c e];have:=A6 (List.drop_sublist (ls.length-c.n.toNat) ls);omega
theorem ar8 (how:Int) (c:Cmd) (hc:how=4->chk c=0) (ps:List (List (List UInt8))) (hl:ps.flatten.length<=999999) (h5:ps.length<=5):(ended (joined how c ps)).length<=(ended ps.flatten).length+7:=by
 unfold joined;split
 . have:=ab0 (aC4 ps);omega
 .
  split
  . have h1:=bo0 ps;have h2:=ba1 (sumOf ps) (by omega);simp[ended];omega
  . split
    . rename_i h4;have:=al3 c (hc h4) ps.flatten hl;omega
    . omega
theorem bB4 (ls:List (List UInt8)) (p:Nat):∀m,m<=p->(((List.range m).map (fun k=>ended ((ls.take ((k+1)*ls.length / p)).drop (k*ls.length / p)))).flatten)=ended (ls.take (m*ls.length / p)):=by
 intro m
 induction m with
 | zero=>intro _;simp[ended]
 | succ m ih=>
  intro h
  have hle:m*ls.length / p<=(m+1)*ls.length / p:=Nat.div_le_div_right (Nat.mul_le_mul_right _ (by omega))
  rw[List.range_succ,List.map_append,List.flatten_append,ih (by omega)]
  simp only[List.map_cons,List.map_nil,List.flatten_cons,List.flatten_nil,List.append_nil]
  rw[<- I1]
  congr 1
  have e:=List.take_append_drop (m*ls.length / p) (ls.take ((m+1)*ls.length / p))
  rw[List.take_take,Nat.min_eq_left hle] at e
  exact e
theorem ar9 (bs:List UInt8) (p:Nat) (hp:0<p):((List.range p).map (partOf bs p)).flatten=ended (lines bs):=by have:=bB4 (lines bs) p p (Nat.le_refl _);rw[Nat.mul_div_cancel_left _ hp,List.take_length] at this;exact this
theorem G8 {n:SNode} (h:l7 n=0):C6 n=0/\M1 n.kind n.ins.length=true/\I5 n=false:=by
 unfold l7 at h;by_cases h0:C6 n=0
 .
  rw[if_neg (by simp[h0])] at h;by_cases h1:(!M1 n.kind n.ins.length || I5 n)=true
  . rw[if_pos h1] at h;cases h
  . simp at h1;exact⟨h0,h1.1,h1.2⟩
 . rw[if_pos h0] at h;exact absurd h h0
theorem I9 {n:SNode} (h:C6 n=0):((n.kind=1\/n.kind=5)/\isWord n.file=true)\/(n.kind=2/\1<=n.wide/\n.wide<=5)\/(n.kind=3/\chk n.c=0)\/(n.kind=4/\jchk n.how n.c=0):=by
 unfold C6 at h;by_cases h1:n.kind=1\/n.kind=5
 . rw[if_pos h1] at h
   cases hw:isWord n.file with
   | true=>exact .inl ⟨h1,rfl⟩
   | false=>rw[hw] at h;cases h
 .
  rw[if_neg h1] at h;by_cases h2:n.kind=2
  . rw[if_pos h2] at h;by_cases hr:n.wide<1\/5<n.wide
    . rw[if_pos hr] at h;cases h
    . exact .inr (.inl ⟨h2,by omega,by omega⟩)
  .
   rw[if_neg h2] at h;by_cases h3:n.kind=3
   . rw[if_pos h3] at h;exact .inr (.inr (.inl ⟨h3,h⟩))
   . rw[if_neg h3] at h;by_cases h4:n.kind=4
     . rw[if_pos h4] at h;exact .inr (.inr (.inr ⟨h4,h⟩))
     . rw[if_neg h4] at h;cases h
theorem as0 (bss:List (List UInt8)):bss.flatten.length=(bss.map List.length).sum:=by
 induction bss with
 | nil=>rfl
 | cons b r ih=>simp[ih]
theorem al4 (a:List UInt8):([a]:List (List UInt8)).flatten.length=a.length:=by simp
theorem aC8 {n:SNode} (h:l7 n=0) (fs:List SFile) (hf:∀f∈fs,f.b.length<=4000) (ins:List (List UInt8)) (hi:ins.length=n.ins.length) (hl:ins.flatten.length<=900000) :
 (i8 n fs ins).flatten.length<=ins.flatten.length+4020:=by
 obtain⟨h1,h2,_⟩:=G8 h;unfold i8;rcases I9 h1 with ⟨h3 | h3,_⟩ | ⟨h3,h4,h5⟩ | ⟨h3,h4⟩ | ⟨h3,h4⟩
 .
  rw[if_pos h3];have e1:=E5 (D8 fs n.file);have e2:(D8 fs n.file).length<=4000:=by
   unfold D8
   cases hq:fs.find? (fun f=>f.name == n.file) with
   | none=>simp
   | some f=>exact hf f (List.mem_of_find?_eq_some hq)
  rw[al4];omega
 . rw[if_neg (by omega),if_neg (by omega),if_neg (by omega),if_neg (by omega)];simp
 .
  rw[if_neg (by omega),if_pos h3,ar9 _ _ (by omega)];have e1:=E5 (ins.head?.getD []);have e2:(ins.head?.getD []).length<=ins.flatten.length:=by
   cases ins with
   | nil=>simp
   | cons a r=>simp
  omega
 .
  rw[if_neg (by omega),if_neg (by omega),if_pos h3];have e1:=E5 (ins.head?.getD []);have e2:(ins.head?.getD []).length<=ins.flatten.length:=by
   cases ins with
   | nil=>simp
   | cons a r=>simp
  have e3:=al3 n.c h4 (lines (ins.head?.getD [])) (by have:=G5 (ins.head?.getD []);omega);rw[al4];omega
 . rw[if_neg (by omega),if_neg (by omega),if_neg (by omega),if_pos h3];have h5:ins.length<=5:=by rw[hi];unfold M1 at h2;rw[if_neg (by omega),if_pos h3] at h2;exact (of_decide_eq_true h2).2
   have e1:=ar8 n.how n.c (ar7 h4) (ins.map lines) (by have:=ac5 ins;omega) (by simpa using h5);have e2:=ah0 ins;rw[al4];omega
theorem aa2 (ahead:List SNode):∀(ps t:List (Int × Int)),(D4 ahead ps t).1=0->(D4 ahead ps t).2=t++ps/\(∀p∈ps,A7 ahead p=true/\p∉t)/\ps.Nodup
 | [],t,_=>by simp[D4]
 | p::r,t,h=>by
  unfold D4 at h ⊢
  by_cases h1:A7 ahead p=false
  . rw[if_pos h1] at h;cases h
  .
   rw[if_neg h1] at h ⊢
   by_cases h2:p∈t
   . rw[if_pos h2] at h;cases h
   .
    rw[if_neg h2] at h ⊢
    obtain⟨e1,e2,e3⟩:=aa2 ahead r (t++[p]) h
    refine⟨by rw[e1];simp,?_,?_⟩
    . intro q hq
      rcases List.mem_cons.1 hq with rfl | hq
      . exact⟨by simpa using h1,h2⟩
      . have:=e2 q hq
        exact⟨this.1,fun hm=>this.2 (by simp[hm])⟩
    . rw[List.nodup_cons]
      exact⟨fun hm=>(e2 p hm).2 (by simp),e3⟩
theorem U1 {ns:List SNode} {p:Int × Int} (h:A7 ns p=true):∃(i k:Nat) (n:SNode),p=(↑i,↑k)/\ns[i]? = some n/\(k:Int)<nouts n:=by
 unfold A7 at h;simp only[Bool.and_eq_true,decide_eq_true_eq] at h;obtain⟨⟨⟨h1,h2⟩,h3⟩,h4⟩:=h;refine⟨p.1.toNat,p.2.toNat,?_⟩
 cases hn:ns[p.1.toNat]? with
 | none=>rw[hn] at h4;cases h4
 | some n=>
  rw[hn] at h4
  refine⟨n,Prod.ext (by simp;omega) (by simp;omega),rfl,?_⟩
  have:p.2<nouts n:=by simpa using h4
  omega
theorem I7 (fs:List SFile):∀(ns:List SNode) (acc:List (List (List UInt8))),(j5 fs acc ns).length=acc.length+ns.length
 | [],acc=>rfl
 | n::r,acc=>by
  show (j5 fs _ r).length=_
  rw[I7 fs r]
  simp
  omega
theorem X8 (fs:List SFile):∀(a b:List SNode) (acc:List (List (List UInt8))),j5 fs acc (a++b)=j5 fs (j5 fs acc a) b
 | [],b,acc=>rfl
 | n::r,b,acc=>X8 fs r b _
theorem an9 (fs:List SFile):∀(ns:List SNode) (acc:List (List (List UInt8))) (i:Nat),i<acc.length->(j5 fs acc ns)[i]? = acc[i]?
 | [],acc,i,h=>rfl
 | n::r,acc,i,h=>by
  show (j5 fs _ r)[i]? = _
  rw[an9 fs r _ i (by simp;omega),List.getElem?_append_left h]
theorem al5 (fs:List SFile) (ns:List SNode) (k:Nat) {n:SNode} (h:ns[k]? = some n):j5 fs [] (ns.take (k+1))=j5 fs [] (ns.take k)++[i8 n fs (n.ins.map (j3 (j5 fs [] (ns.take k))))]:=by rw[List.take_add_one,h,Option.toList_some,X8];rfl
theorem bo6 (fs:List SFile) (ns:List SNode) (i:Nat) {p:Int × Int} (h0:0<=p.1) (h:p.1<i) (hi:i<=ns.length):j3 (j5 fs [] ns) p=j3 (j5 fs [] (ns.take i)) p:=by
 unfold j3;rw[<- List.take_append_drop i ns,X8,an9]
 . rw[List.take_append_drop]
 . rw[I7,List.length_take];simp;omega
theorem m9 {n:SNode} (h:l7 n=0) (fs:List SFile) (ins:List (List UInt8)):((i8 n fs ins).length:Int)=nouts n:=by
 obtain⟨h1,_,_⟩:=G8 h;unfold i8 nouts;rcases I9 h1 with ⟨h3 | h3,_⟩ | ⟨h3,h4,h5⟩ | ⟨h3,h4⟩ | ⟨h3,h4⟩
 . rw[if_pos h3,if_neg (by omega),if_neg (by omega)];rfl
 . rw[if_neg (by omega),if_neg (by omega),if_neg (by omega),if_neg (by omega),if_neg (by omega),if_pos h3];rfl
 . rw[if_neg (by omega),if_pos h3,if_pos h3];simp;omega
 . rw[if_neg (by omega),if_neg (by omega),if_pos h3,if_neg (by omega),if_neg (by omega)];rfl
 . rw[if_neg (by omega),if_neg (by omega),if_neg (by omega),if_pos h3,if_neg (by omega),if_neg (by omega)];rfl
end Go.Gs
namespace Go.Gs
open Go.RowKit Go.ChangeShapes Go.WideShapes Go.ChangeAt
set_option linter.unusedVariables false
variable {P:Program} {H:Type} {enc:TypeId × Value->H} {W:World} {base:Nat} {held:Bool} {fuel:Nat} {t e:TypeId} {v:Value} {x:DataW H × List MemPlace}
theorem bB5 {b off j:Nat}:(⟨b,off,none⟩:Addr).add j=⟨b,off+j,none⟩:=by unfold Addr.add;split <;> simp_all
theorem ad9 {k:IntKind} (ht:P.underlying t=some (.slice e)) (he:P.underlying e=some (.int k)) (hc:P.cellsOf e=1)
 (hf:DataW.trod enc P W base (fun _=>true) held fuel t [v]=some x) :
 ∃(zs:List Int) (a:Option Addr) (cap:Nat),v=.slice a zs.length cap/\Reads W (.slice a zs.length cap) zs.length (zs.map (Value.int k))/\(a=none->cap=0) /\ ∀z∈zs,(Lit.int k z).wf=true:=by
 rcases open_ints ht he hc hf with ⟨hcs,_⟩ | ⟨ad,l,c,zs,hcs,_,hl,hm,hz,_,Ac,hwz⟩
 . simp at hcs;subst hcs;exact⟨[],none,0,rfl,⟨rfl,none,0,rfl,Nat.le_refl _,by simp,fun h=>absurd rfl h⟩,fun _=>rfl,by simp⟩
 .
  simp at hcs;subst hcs;have hz':zs.length=c:=by simpa using hz
  have hbl:(zs.take l).length=l:=by rw[List.length_take];omega
  refine⟨zs.take l,some ad,c,by rw[hbl],⟨by rw[List.length_map],some ad,c,by rw[hbl],by omega,hm,fun h0=>?_⟩,(fun h=>by cases h),fun z hzm=>hwz z (List.mem_of_mem_take hzm)⟩;rw[hbl] at h0;obtain⟨b,off,spot⟩:=ad;have h00:=Ac 0 (by omega);have Br:spot=none:=by simpa[Addr.add] using World.cell?_spot h00
  subst Br;refine⟨b,off,rfl,fun j u hu=>?_⟩;have hj:j<l:=by have:=(gSm hu).1;simp at this;omega
  have hjz:j<zs.length:=by omega
  have hcj:=Ac j hjz;rw[bB5] at hcj;rw[hcj];simp only[List.getElem?_map,List.getElem?_take,hj,if_true,gEl hjz,Option.map_some,Option.some.injEq] at hu;rw[<- hu];simp[hjz]
end Go.Gs
