/- Plain facts on bytes and lines, and on slices that can be read, and more. -/
import Derived.WalkKit
import Derived.Test.YtllgglolcgdehaaGreatDoorProg
import Derived.WalkLawsBesides
import Derived.Laws.IdiomStrings
import Derived.Outline
import Derived.ChangeAgain
import Derived.Laws.Strings3
import Derived.Lib.SlBytesConst
import Derived.WalkSpells
import Derived.Lib.Split
import Derived.Lib.SplitLaws
import Derived.Lib.ItoaNum
import Derived.Lib.AtoiAllCases
import Derived.Lib.Join
import Derived.Lib.IndexMore
import Derived.Lib.SlicesCompact
import Derived.Deep.Draws
import Derived.Deep.RegionWith
import Derived.Deep.DeepCutAuto
import Derived.Deep.Cut
import Derived.Deep.QuietTactic
import Derived.Deep.RegionLaw
import Derived.BigQuiet
import Derived.Lib.SliceRun
import Derived.Lib.QuietBelow
set_option maxRecDepth 100000
set_option maxHeartbeats 16000000
namespace Go.Gs
open Go.RowKit
def U (c:UInt8):Value:=.int .u8 (c.toNat:Int)
def S (l:List UInt8):Value:=.string ⟨l.toArray⟩
def linesAux (cur:List UInt8):List UInt8->List (List UInt8)
 | []=>if cur=[] then [] else [cur]
 | c::r=>if c=10 then cur::linesAux [] r else linesAux (cur++[c]) r
def lines (b:List UInt8):List (List UInt8):=linesAux [] b
def ended (l:List (List UInt8)):List UInt8:=(l.map (fun s=>s++[10])).flatten
theorem ended_cons (s:List UInt8) (l:List (List UInt8)):ended (s::l)=s++[10]++ended l:=by simp[ended]
theorem ended_append (a b:List (List UInt8)):ended (a++b)=ended a++ended b:=by simp[ended]
theorem linesAux_length (r:List UInt8):∀cur,(linesAux cur r).length<=r.length+(if cur=[] then 0 else 1):=by
 induction r with
 | nil=>intro cur;unfold linesAux;split <;> simp_all
 | cons c r ih=>
  intro cur
  unfold linesAux
  split
  . have:=ih []
    simp only[List.length_cons,if_true] at *
    split <;> omega
  . have:=ih (cur++[c])
    simp only[List.length_cons,List.append_eq_nil_iff,List.cons_ne_nil,and_false,if_false] at *
    split <;> omega
theorem lines_length (b:List UInt8):(lines b).length<=b.length:=by
 have:=linesAux_length b []
 simpa[lines] using this
theorem linesAux_noFeed (r:List UInt8):∀cur,(10∉cur) -> ∀s∈linesAux cur r,(10:UInt8)∉s:=by
 induction r with
 | nil=>intro cur h s hs;unfold linesAux at hs;split at hs <;> simp_all
 | cons c r ih=>
  intro cur h s hs
  unfold linesAux at hs
  split at hs
  . simp only[List.mem_cons] at hs
    rcases hs with rfl | hs
    . exact h
    . exact ih [] (by simp) s hs
  . exact ih (cur++[c]) (by simp_all [eq_comm]) s hs
theorem lines_noFeed (b:List UInt8):∀s∈lines b,(10:UInt8)∉s:=linesAux_noFeed b [] (by simp)
theorem linesAux_line (s:List UInt8):∀(cur r:List UInt8),(10:UInt8)∉s->linesAux cur (s++10::r)=(cur++s)::linesAux [] r:=by
 induction s with
 | nil=>intro cur r _;simp[linesAux]
 | cons c s ih=>
  intro cur r h
  simp only[List.mem_cons,not_or] at h
  rw[List.cons_append,linesAux,if_neg (fun e=>h.1 e.symm),ih _ _ h.2]
  simp
theorem lines_ended (l:List (List UInt8)) (h:∀s∈l,(10:UInt8)∉s):lines (ended l)=l:=by
 induction l with
 | nil=>simp[ended,lines,linesAux]
 | cons s l ih=>
  have hs:=h s (by simp)
  have:=ih (fun t ht=>h t (by simp[ht]))
  rw[ended_cons,List.append_assoc]
  show linesAux [] (s++10::ended l)=_
  rw[linesAux_line s [] _ hs]
  simpa[lines] using this
theorem ended_last (l:List (List UInt8)) (h:ended l≠[]):(ended l).getLast h=10:=by
 induction l with
 | nil=>exact absurd rfl h
 | cons s l ih=>
  simp only[ended_cons] at h ⊢
  by_cases e:ended l=[]
  . simp[e]
  . rw[List.getLast_append_of_ne_nil _ e];exact ih e
theorem ended_linesAux (r:List UInt8):∀cur,(ended (linesAux cur r)).length<=cur.length+r.length+1:=by
 induction r with
 | nil=>intro cur;unfold linesAux;split <;> simp_all [ended]
 | cons c r ih=>
  intro cur
  unfold linesAux
  split
  . have:=ih []
    simp only[ended_cons,List.length_append,List.length_cons,List.length_nil] at *
    omega
  . have:=ih (cur++[c])
    simp only[List.length_append,List.length_cons,List.length_nil] at *
    omega
theorem ended_lines (b:List UInt8):(ended (lines b)).length<=b.length+1:=by
 have:=ended_linesAux b []
 simpa[lines] using this
theorem ended_length_sub (l:List (List UInt8)) (i j:Nat):(ended ((l.take j).drop i)).length<=(ended l).length:=by
 have h1:(ended (l.take j)).length<=(ended l).length:=by
  conv=>rhs;rw[<- List.take_append_drop j l,ended_append]
  simp
 have h2:(ended ((l.take j).drop i)).length<=(ended (l.take j)).length:=by
  conv=>rhs;rw[<- List.take_append_drop i (l.take j),ended_append]
  simp
 omega
theorem ended_length_ge (l:List (List UInt8)):l.length<=(ended l).length:=by
 induction l with
 | nil=>simp
 | cons s l ih=>rw[ended_cons];simp;omega
theorem _root_.gSm {α:Type _} {l:List α} {i:Nat} {a:α} (h:l[i]? = some a):∃h:i<l.length,l[i]=a:=List.getElem?_eq_some_iff.1 h
theorem _root_.bLt (w:World) (a:Addr) {v:Value} (h:w.cell? a=some v):a.block<w.heap.size:=World.block_lt_of_cell? w a h
theorem _root_.gEl {α:Type _} {l:List α} {i:Nat} (h:i<l.length):l[i]? = some l[i]:=List.getElem?_eq_getElem h
theorem _root_.mGt {α:Type _} {l:List α} {i:Nat} {a:α} (h:l[i]? = some a):a∈l:=List.mem_of_getElem? h
theorem _root_.aSm {α:Type _} {l:Array α} {i:Nat} {a:α} (h:l[i]? = some a):∃h:i<l.size,l[i]=a:=Array.getElem?_eq_some_iff.1 h
def Reads (w:World) (v:Value) (n:Nat) (xs:List Value):Prop:=
 xs.length=n /\ ∃ao cap,v=.slice ao n cap/\n<=cap/\cap<=maxLen /\
  (n≠0 -> ∃b off,ao=some ⟨b,off,none⟩ /\ ∀j u,xs[j]? = some u->w.cell? ⟨b,off+j,none⟩=some u)
theorem Reads.of_owns {w:World} {base:Nat} {e:TypeId} {v:Value} {n:Nat} {xs:List Value} (h:w.ownsRow base e 1 v n xs):Reads w v n xs:=by
 have hl:xs.length=n:=by simpa using h.1
 refine⟨hl,?_⟩
 rcases h.2 with ⟨rfl,rfl⟩ | ⟨g,cap,cur,rfl,hb,hg,h1,h2,h3,h4⟩
 . exact⟨none,0,rfl,Nat.le_refl _,by simp,fun h=>absurd rfl h⟩
 . refine⟨_,cap,rfl,h1,h2,fun _=>⟨g,0,rfl,fun j u hu=>?_⟩⟩
   have:=h.cells (g:=g) rfl j u hu
   have hadd:(⟨g,0,none⟩:Addr).add j=⟨g,0+j,none⟩:=by unfold Addr.add;split <;> simp_all
   rwa [hadd] at this
theorem Reads.below {w w':World} {v:Value} {n:Nat} {xs:List Value} (h:Reads w v n xs) (hb:Below w.heap.size w w'):Reads w' v n xs:=by
 obtain⟨h1,ao,cap,rfl,h2,h3,h4⟩:=h
 refine⟨h1,ao,cap,rfl,h2,h3,fun hn=>?_⟩
 obtain⟨b,off,rfl,hc⟩:=h4 hn
 exact⟨b,off,rfl,fun j u hu=>(hb.cell (World.block_lt_of_cell? w _ (hc j u hu))).trans (hc j u hu)⟩
theorem Reads.setCell {w:World} {v:Value} {n:Nat} {xs:List Value} (h:Reads w v n xs) {a:Addr} {old:Value} (ha:w.cell? a=some old) (x:Value) (hne:old∉xs):Reads (w.setCell a x) v n xs:=by
 obtain⟨h1,ao,cap,rfl,h2,h3,h4⟩:=h
 refine⟨h1,ao,cap,rfl,h2,h3,fun hn=>?_⟩
 obtain⟨b,off,rfl,hc⟩:=h4 hn
 refine⟨b,off,rfl,fun j u hu=>?_⟩
 have hcu:=hc j u hu
 have hd:a≠⟨b,off+j,none⟩:=by
  rintro rfl
  rw[hcu] at ha
  cases ha
  exact hne (List.mem_of_getElem? hu)
 rw[<- hcu]
 exact World.cell?_setCell_other _ _ _ _ hd
end Go.Gs
namespace Go.Proofs.YtllgglolcgdehaaGreatDoor
open Go.RowKit Go.Gs
set_option linter.unusedVariables false
theorem infoStr:(Tryz.prog.info? 9).map (fun i=>(i.zero,i.size,i.bytes))=some (some (.string ⟨#[]⟩),1,16):=by kernel_rfl
theorem all_none (ao:Option Addr) (cap:Nat) (w:World) :
 Calls Tryz.prog 147 #[.slice ao 0 cap] w fun e w'=>e=.returned (.slice none 0 0)/\w'=w:=by
 go_enter Tryz.func147,Tryz.ntmps147
 go_wp2
 go_loopw [3,4,9] (fun v4 s i wr=>v4=.slice none 0 0/\s=.int .i64 0/\i=.int .i64 0/\wr=w) (fun _ _ _ _=>0)
 case atStart=>exact⟨rfl,rfl,rfl,rfl⟩
 case round=>
  obtain⟨rfl,rfl,rfl,rfl⟩:=hrel
  go_wp2
  go_ret
  exact⟨rfl,rfl⟩
theorem lines_step (bs:List UInt8) (k st:Nat) (D:List (List UInt8)) (h:k<bs.length) (hst:st<=k) (he:D++linesAux ((bs.take k).drop st) (bs.drop k)=lines bs) :
 (bs[k]=10->(D++[(bs.take k).drop st])++linesAux ((bs.take (k+1)).drop (k+1)) (bs.drop (k+1))=lines bs) /\
 (bs[k]≠10->D++linesAux ((bs.take (k+1)).drop st) (bs.drop (k+1))=lines bs):=by
 have hd:bs.drop k=bs[k]::bs.drop (k+1):=(List.drop_eq_getElem_cons h)
 rw[hd,linesAux] at he
 constructor
 . intro e
   rw[if_pos e] at he
   rw[<- he]
   simp
 . intro e
   rw[if_neg e] at he
   rw[<- he,List.take_succ_eq_append_getElem h,List.drop_append_of_le_length (by simp;omega)]
theorem lines_end (bs:List UInt8) (st:Nat) (D:List (List UInt8)) (he:D++linesAux ((bs.take bs.length).drop st) (bs.drop bs.length)=lines bs) :
 (st<bs.length->D++[bs.drop st]=lines bs)/\(¬st<bs.length->D=lines bs):=by
 simp only[List.take_length,List.drop_length] at he
 unfold linesAux at he
 constructor
 . intro h
   rw[if_neg (by simp;omega)] at he
   exact he
 . intro h
   rw[if_pos (by simp;omega)] at he
   simpa using he
theorem conv_run (w:World) (b off st en cap:Nat) (bs:List UInt8) (hse:st<=en) (hen:en<=bs.length)
 (hc:∀j u,(bs.map U)[j]? = some u->w.cell? ⟨b,off+j,none⟩=some u) :
 (convert 28 9 (.slice (some ⟨b,off+st,none⟩) (en-st) cap)).run Tryz.prog w=.ok (S ((bs.take en).drop st)) w:=by
 have hl:((bs.take en).drop st).length=en-st:=by simp;omega
 have:=run_convert_bytes_back (P:=Tryz.prog) w 28 9 5 ⟨b,off+st,none⟩ cap ((bs.take en).drop st) Tryz.underlying28 Tryz.underlying5 Tryz.underlying9 (fun j hj=>by
  have hadd:(⟨b,off+st,none⟩:Addr).add j=⟨b,off+(st+j),none⟩:=by unfold Addr.add;split <;> simp_all [Nat.add_assoc]
  rw[hadd]
  have hj':st+j<bs.length:=by omega
  rw[hc (st+j) (U bs[st+j]) (by simp[hj'])]
  simp[U])
 rw[hl] at this
 exact this
theorem rel_app {w wr w1:World} {v v':Value} {D:List (List UInt8)} {l:List UInt8} {sx:ByteArray} {o:Obj} (hown:wr.ownsRow w.heap.size 9 1 v D.length (D.map S)) (hbel:Below w.heap.size w wr) (hsx:Value.string sx=S l)
 (hown':w1.ownsRow w.heap.size 9 1 v' (D.length+1) (D.map S++[.string sx])) (hgrow:(wr.alloc o).grownBy w1 v.ownBlock) :
 w1.ownsRow w.heap.size 9 1 v' (D++[l]).length ((D++[l]).map S)/\Below w.heap.size w w1:=by
 refine⟨by simpa[<- hsx] using hown',?_⟩
 exact (hbel.alloc (by have:=hbel.size;omega) o).grown hgrow (by have:=hbel.size;simp;omega) (fun k hk=>(hown.lt k hk).1)
theorem all_some (b off cap:Nat) (bs:List UInt8) (w:World) (h0:0<bs.length) (hle:bs.length<=1000000) (hcap:bs.length<=cap) (hcm:cap<=9223372036854775807)
 (hc:∀j u,(bs.map U)[j]? = some u->w.cell? ⟨b,off+j,none⟩=some u) :
 Calls Tryz.prog 147 #[.slice (some ⟨b,off,none⟩) bs.length cap] w fun e w'=>∃r,e=.returned r /\
  w'.ownsRow w.heap.size 9 1 r (lines bs).length ((lines bs).map S)/\Below w.heap.size w w':=by
 obtain⟨i0,hi,hz0,hz1,hz2⟩:=info_parts infoStr
 have hbB:b<w.heap.size:=bLt w _ (hc 0 (U bs[0]) (by simp[h0]))
 generalize hn:bs.length=n at *
 go_enter Tryz.func147,Tryz.ntmps147
 go_wp2
 go_loopw [3,4,9] (fun v4 s i wr=>∃(k st:Nat) (D:List (List UInt8)),st<=k/\k<=n/\i=.int .i64 k/\s=.int .i64 st/\wr.ownsRow w.heap.size 9 1 v4 D.length (D.map S)/\Below w.heap.size w wr/\D.length<=k/\Hid (D++linesAux ((bs.take k).drop st) (bs.drop k)=lines bs))
  (fun _ _ i _=>n-(intOf i).toNat)
 case atStart=>exact⟨0,0,[],Nat.le_refl _,Nat.zero_le _,rfl,rfl,World.ownsRow_nil _ _ _ _,Below.refl _ _,Nat.le_refl _,by simp[Hid,lines]⟩
 case round=>
  obtain⟨k,st,D,hsk,hk,rfl,rfl,hown,hbel,hDk,hrest⟩:=hrel
  have hcr:∀j u,(bs.map U)[j]? = some u->wr.cell? ⟨b,off+j,none⟩=some u:=fun j u hu=>(hbel.cell (by exact hbB)).trans (hc j u hu)
  by_cases hlt:k<n
  .
   have hcell:wr.cell? ⟨b,off+k,none⟩=some (.int .u8 ((bs[k]'(by omega)).toNat:Int)):=hcr k _ (by simp[U,hn,hlt])
   have hstep:=lines_step bs k st D (by omega) hsk hrest.out
   have Hstep:Hid _:=hstep
   clear hstep
   obtain⟨sx,hsx,hconv⟩:∃sx,Hid (Value.string sx=S ((bs.take k).drop st))/\(convert 28 9 (.slice (some ⟨b,off+st,none⟩) (k-st) (cap-st))).run Tryz.prog wr=.ok (.string sx) wr:=
    ⟨_,rfl,conv_run wr b off st k (cap-st) bs hsk (by omega) hcr⟩
   clear hcr hc hrest
   by_cases hc10:bs[k]'(by omega)=10
   .
    have hcell':wr.cell? ⟨b,off+k,none⟩=some (.int .u8 10):=by rw[hcell,hc10];rfl
    have Hr:Hid _:=(Hstep.out).1 hc10
    clear hcell Hstep hc10
    go_wp2_with (at_builtin;refine wpList_append_own _ rfl _ _ 53 rfl w.heap.size 9 i0 (.string ⟨#[]⟩) 1 16 Tryz.underlying53 hi hz0 hz1 hz2 rfl (by decide) _ _ _ rfl (hown.alloc _) ⟨wr.heap.size,0,none⟩ 1 1 [.string sx] rfl rfl ?c1 ?c2 ?c3 ?c4 ?c5 ?_)
    case c1=>
     intro j u hj
     match j,hj with
     | 0,hj=>simp at hj;subst hj;simp[Addr.add]
    case c2=>intro u hu;simp at hu;subst hu;rfl
    case c3=>unfold maxLen;omega
    case c4=>omega
    case c5=>have:=hbel.size;simp;omega
    . intro v' w1 hown' hgrow _
      have R:=rel_app hown hbel hsx.out hown' hgrow
      clear hown' hgrow hown hbel hsx hconv hcell'
      go_wp2
      go_roundw
      case rel=>exact⟨k+1,k+1,D++[(bs.take k).drop st],Nat.le_refl _,by omega,by go_num,by go_num,R.1,R.2,by simp;omega,Hr.out⟩
      case measure=>simp[intOf];omega
   .
    have hne:(((bs[k]'(by omega)).toNat:Int) == 10)=false:=by
     rw[beq_eq_false_iff_ne]
     intro e
     exact hc10 (UInt8.toNat_inj.1 (show _=10 by omega))
    have Hr:Hid _:=(Hstep.out).2 hc10
    clear Hstep hc10 hconv hsx
    go_wp2
    go_roundw
    case rel=>exact⟨k+1,st,D,by omega,by omega,by go_num,rfl,hown,hbel,by omega,Hr.out⟩
    case measure=>simp[intOf];omega
  .
   have hkn:k=n:=by omega
   subst hkn
   subst hn
   have He:Hid _:=lines_end bs st D hrest.out
   clear hrest hc
   by_cases hst:st<bs.length
   .
    obtain⟨sx,hsx,hconv⟩:∃sx,Hid (Value.string sx=S (bs.drop st))/\(convert 28 9 (.slice (some ⟨b,off+st,none⟩) (bs.length-st) (cap-st))).run Tryz.prog wr=.ok (.string sx) wr:=
     ⟨_,rfl,by have:=conv_run wr b off st bs.length (cap-st) bs (by omega) (Nat.le_refl _) hcr;rwa [List.take_length] at this⟩
    have Hr:Hid _:=(He.out).1 hst
    clear hcr He
    go_wp2_with (at_builtin;refine wpList_append_own _ rfl _ _ 53 rfl w.heap.size 9 i0 (.string ⟨#[]⟩) 1 16 Tryz.underlying53 hi hz0 hz1 hz2 rfl (by decide) _ _ _ rfl (hown.alloc _) ⟨wr.heap.size,0,none⟩ 1 1 [.string sx] rfl rfl ?d1 ?d2 ?d3 ?d4 ?d5 ?_)
    case d1=>
     intro j u hj
     match j,hj with
     | 0,hj=>simp at hj;subst hj;simp[Addr.add]
    case d2=>intro u hu;simp at hu;subst hu;rfl
    case d3=>unfold maxLen;omega
    case d4=>omega
    case d5=>have:=hbel.size;simp;omega
    . intro v' w1 hown' hgrow _
      have R:=rel_app hown hbel hsx.out hown' hgrow
      clear hown' hgrow hown hbel hsx hconv
      go_wp2
      go_ret
      rw[Hr.out] at R
      exact⟨v',rfl,R.1,R.2⟩
   . have Hr:Hid _:=(He.out).2 hst
     clear hcr He
     go_wp2
     go_ret
     rw[Hr.out] at hown
     exact⟨_,rfl,hown,hbel⟩
theorem all_reads (v:Value) (bs:List UInt8) (w:World) (hr:Reads w v bs.length (bs.map U)) (hle:bs.length<=1000000) :
 Calls Tryz.prog 147 #[v] w fun e w'=>∃r,e=.returned r /\
  w'.ownsRow w.heap.size 9 1 r (lines bs).length ((lines bs).map S)/\Below w.heap.size w w':=by
 obtain⟨_,ao,cap,rfl,h2,h3,h4⟩:=hr
 by_cases h0:bs.length=0
 .
  have hb:bs=[]:=List.eq_nil_of_length_eq_zero h0
  subst hb
  refine (all_none ao cap w).mono ?_
  rintro e w' ⟨rfl,rfl⟩
  exact⟨_,rfl,by simpa[lines,linesAux] using World.ownsRow_nil _ _ _ _,Below.refl _ _⟩
 . obtain⟨b,off,rfl,hc⟩:=h4 h0
   exact all_some b off cap bs w (by omega) hle h2 (by simpa[maxLen] using h3) hc
theorem reads_sub {w:World} {g n cap lo hi:Nat} {xs:List Value} (h:Reads w (.slice (some ⟨g,0,none⟩) n cap) n xs) (h1:lo<=hi) (h2:hi<=n) :
 Reads w (.slice (some ⟨g,lo,none⟩) (hi-lo) (cap-lo)) (hi-lo) ((xs.take hi).drop lo):=by
 obtain⟨hl,ao,cap',e,h3,h4,h5⟩:=h
 simp only[Value.slice.injEq,true_and] at e
 obtain⟨rfl,rfl⟩:=e
 refine⟨by simp;omega,_,_,rfl,by omega,by omega,fun hn=>?_⟩
 obtain⟨b,off,e,hc⟩:=h5 (by omega)
 simp only[Option.some.injEq,Addr.mk.injEq,and_true] at e
 obtain⟨rfl,rfl⟩:=e
 refine⟨g,lo,rfl,fun j u hu=>?_⟩
 rw[List.getElem?_drop,List.getElem?_take] at hu
 split at hu
 . have:=hc _ _ hu
   rwa [Nat.zero_add] at this
 . cases hu
theorem owns_below {w w':World} {base:Nat} {e:TypeId} {size:Nat} {v:Value} {n:Nat} {xs:List Value} (h:w.ownsRow base e size v n xs) (hb:Below w.heap.size w w'):w'.ownsRow base e size v n xs:=
 h.kept (row:=none) ⟨hb.os,hb.tape,hb.output,hb.size,fun k hk _=>hb.block k hk⟩ (by cases hv:v.ownBlock <;> simp)
theorem reads_new (w:World) (C:Array Value) (e:TypeId) (fr:Nat × Nat) (n:Nat) (hn:C.size=n) (hm:n<=1000000):Reads (w.alloc (.cells C e fr)) (.slice (some ⟨w.heap.size,0,none⟩) n n) n C.toList:=by
 refine⟨by simpa using hn,_,n,rfl,Nat.le_refl _,by unfold maxLen;omega,fun _=>⟨w.heap.size,0,rfl,fun j u hu=>?_⟩⟩
 rw[cell_of_row _ _ _ _ _ _ (heap_alloc_new w _)]
 simpa using hu
theorem conv_reads {w:World} {b off n cap:Nat} {bs:List UInt8} (h:Reads w (.slice (some ⟨b,off,none⟩) n cap) n (bs.map U)) (hn:n≠0) :
 (convert 28 9 (.slice (some ⟨b,off,none⟩) n cap)).run Tryz.prog w=.ok (.string ⟨bs.toArray⟩) w:=by
 obtain⟨hl,ao,cap',e,_,_,h4⟩:=h
 simp only[Value.slice.injEq,true_and] at e
 obtain⟨rfl,rfl⟩:=e
 obtain⟨b',off',e,hc⟩:=h4 hn
 simp only[Option.some.injEq,Addr.mk.injEq,and_true] at e
 obtain⟨rfl,rfl⟩:=e
 have hl':bs.length=n:=by simpa using hl
 have:=conv_run w b off 0 n cap bs (Nat.zero_le _) (by omega) hc
 simpa[<- hl',S] using this
theorem conv_any {w:World} {v:Value} {bs:List UInt8} (h:Reads w v bs.length (bs.map U)) :
 (convert 28 9 v).run Tryz.prog w=.ok (.string ⟨bs.toArray⟩) w:=by
 obtain⟨hl,ao,cap,rfl,h2,h3,h4⟩:=h
 by_cases h0:bs.length=0
 .
  have hb:bs=[]:=List.eq_nil_of_length_eq_zero h0
  subst hb
  cases ao with
  | none=>exact run_convert_bytes_nil (P:=Tryz.prog) w 28 5 Tryz.underlying28 Tryz.underlying5 _ _ 9 Tryz.underlying9
  | some a=>exact run_convert_bytes_back (P:=Tryz.prog) w 28 9 5 a cap [] Tryz.underlying28 Tryz.underlying5 Tryz.underlying9 (fun j hj=>absurd hj (Nat.not_lt_zero _))
 . obtain⟨b,off,rfl,hc⟩:=h4 h0
   exact conv_reads ⟨hl,_,cap,rfl,h2,h3,fun _=>⟨b,off,rfl,hc⟩⟩ h0
theorem reads_take {w:World} {g n cap m:Nat} {xs:List Value} (h:Reads w (.slice (some ⟨g,0,none⟩) n cap) n xs) (h1:m<=n):Reads w (.slice (some ⟨g,0,none⟩) m cap) m (xs.take m):=by
 have:=reads_sub h (Nat.zero_le m) h1
 simpa using this
theorem flat_step {α:Type} {pss:List (List α)} {k:Nat} {p:List α} (h:pss[k]? = some p):(pss.take (k+1)).flatten=(pss.take k).flatten++p:=by
 rw[List.take_add_one,h]
 simp
theorem flat_le {α:Type} (pss:List (List α)) (k:Nat):((pss.take k).flatten).length<=(pss.flatten).length:=by
 conv=>rhs;rw[<- List.take_append_drop k pss,List.flatten_append]
 simp
def RList {α:Type} (w:World) (v:Value) (f:α->Value) (pss:List (List α)):Prop:=
 ∃us:List Value,Reads w v pss.length us /\ ∀(j:Nat) (p:List α),pss[j]? = some p -> ∃u,us[j]? = some u/\Reads w u p.length (p.map f)
theorem RList.below {α:Type} {w w':World} {v:Value} {f:α->Value} {pss:List (List α)} (h:RList w v f pss) (hb:Below w.heap.size w w'):RList w' v f pss:=by
 obtain⟨us,h1,h2⟩:=h
 refine⟨us,h1.below hb,fun j p hj=>?_⟩
 obtain⟨u,h3,h4⟩:=h2 j p hj
 exact⟨u,h3,h4.below hb⟩
theorem RList.shape {α:Type} {w:World} {v:Value} {f:α->Value} {pss:List (List α)} (h:RList w v f pss):∃ao cap,v=.slice ao pss.length cap/\pss.length<=cap/\cap<=maxLen:=by
 obtain⟨us,⟨_,ao,cap,h2,h3,h4,_⟩,_⟩:=h
 exact⟨ao,cap,h2,h3,h4⟩
theorem RList.at {α:Type} {w:World} {ao:Option Addr} {n cap:Nat} {f:α->Value} {pss:List (List α)} (h:RList w (.slice ao n cap) f pss) {k:Nat} {p:List α} (hk:pss[k]? = some p) :
 ∃b off au cu,ao=some ⟨b,off,none⟩/\w.cell? ⟨b,off+k,none⟩=some (.slice au p.length cu)/\Reads w (.slice au p.length cu) p.length (p.map f):=by
 obtain⟨us,⟨h1,ao',cap',e,_,_,h5⟩,h2⟩:=h
 injection e with e1 e2 e3
 subst e1
 obtain⟨u,hu,hr⟩:=h2 k p hk
 obtain⟨hkl,_⟩:=gSm hk
 obtain⟨b,off,hao,hc⟩:=h5 (by omega)
 obtain⟨hl,au,cu,rfl,hr'⟩:=hr
 exact⟨b,off,au,cu,hao,hc k _ hu,hl,au,cu,rfl,hr'⟩
theorem flat_mem_le {α:Type} {pss:List (List α)} {p:List α} (h:p∈pss):p.length<=pss.flatten.length:=by
 obtain⟨s,t,rfl⟩:=List.append_of_mem h
 simp
 omega
theorem flat_at_le {α:Type} {pss:List (List α)} {k:Nat} {p:List α} (h:pss[k]? = some p):((pss.take k).flatten).length+p.length<=pss.flatten.length:=by
 have:=flat_le pss (k+1)
 rw[flat_step h,List.length_append] at this
 exact this
end Go.Proofs.YtllgglolcgdehaaGreatDoor
namespace Go.Gs
open Go.RowKit
structure Cmd where
 kind:Int
 word:List UInt8
 n:Int
def Cmd.v (c:Cmd):Value:=.agg #[.int .i64 c.kind,.string ⟨c.word.toArray⟩,.int .i64 c.n]
def wordByte (c:UInt8):Bool:=(97<=c.toNat && c.toNat<=122) || (48<=c.toNat && c.toNat<=57)
def isWord (s:List UInt8):Bool:=decide (0<s.length) && decide (s.length<=12) && s.all wordByte
def uses (k:Int):Nat:=if 1<=k/\k<=3 then 1 else if k=4\/k=9\/k=10 then 2 else if 5<=k/\k<=8 then 3 else 0
def chk (c:Cmd):Int:=
 if uses c.kind=0 then 4
 else if (uses c.kind≠1/\c.word≠[])\/(uses c.kind≠2/\c.n≠0) then 4
 else if uses c.kind=2/\(c.n<1\/1000<c.n) then 3
 else if uses c.kind=1/\(isWord c.word=false\/(c.kind=3/\c.word.length≠2)) then 1
 else 0
def isEach (k:Int):Bool:=decide (1<=k/\k<=5)
end Go.Gs
namespace Go.Gs
open Go.RowKit
set_option linter.unusedVariables false
structure SLine where
 fr:List (List UInt8)
 cs:List Cmd
 tu:List UInt8
def firstBad:List Int->Int
 | []=>0
 | e::r=>if e=0 then firstBad r else e
def lchk (l:SLine):Int:=
 if l.fr.length<1\/4<l.fr.length\/6<l.cs.length then 2
 else if l.fr.all isWord=false then 1
 else if isWord l.tu=false then 1
 else firstBad (l.cs.map chk)
def swapOf (a b:UInt8) (s:List UInt8):List UInt8:=s.map fun x=>if x=a then b else x
def fieldOf (n:Int) (s:List UInt8):List UInt8:=((Lib.split s [32])[(n-1).toNat]?).getD []
def sortOf (ls:List (List UInt8)):List (List UInt8):=ls.mergeSort fun x y=>decide (x<=y)
def made (c:Cmd) (ls:List (List UInt8)):List (List UInt8):=
 if c.kind=1 then ls.filter (fun s=>Lib.contains s c.word)
 else if c.kind=2 then ls.filter (fun s=>!Lib.contains s c.word)
 else if c.kind=3 then ls.map (swapOf (c.word.getD 0 0) (c.word.getD 1 0))
 else if c.kind=4 then ls.map (fieldOf c.n)
 else if c.kind=5 then ls.map List.reverse
 else if c.kind=6 then sortOf ls
 else if c.kind=7 then Lib.compact ls
 else if c.kind=8 then [Lib.itoa (ls.length:Int)]
 else if c.kind=9 then ls.take c.n.toNat
 else ls.drop (ls.length-c.n.toNat)
theorem made1 (c:Cmd) (h:c.kind=1) (ls:List (List UInt8)):made c ls=ls.filter (fun s=>Lib.contains s c.word):=by simp[made,h]
theorem made2 (c:Cmd) (h:c.kind=2) (ls:List (List UInt8)):made c ls=ls.filter (fun s=>!Lib.contains s c.word):=by simp[made,h]
theorem made3 (c:Cmd) (h:c.kind=3) (ls:List (List UInt8)):made c ls=ls.map (swapOf (c.word.getD 0 0) (c.word.getD 1 0)):=by simp[made,h]
theorem made4 (c:Cmd) (h:c.kind=4) (ls:List (List UInt8)):made c ls=ls.map (fieldOf c.n):=by simp[made,h]
theorem made5 (c:Cmd) (h:c.kind=5) (ls:List (List UInt8)):made c ls=ls.map List.reverse:=by simp[made,h]
theorem made6 (c:Cmd) (h:c.kind=6) (ls:List (List UInt8)):made c ls=sortOf ls:=by simp[made,h]
theorem made7 (c:Cmd) (h:c.kind=7) (ls:List (List UInt8)):made c ls=Lib.compact ls:=by simp[made,h]
theorem made8 (c:Cmd) (h:c.kind=8) (ls:List (List UInt8)):made c ls=[Lib.itoa (ls.length:Int)]:=by simp[made,h]
theorem made9 (c:Cmd) (h:c.kind=9) (ls:List (List UInt8)):made c ls=ls.take c.n.toNat:=by simp[made,h]
theorem made10 (c:Cmd) (h:c.kind=10) (ls:List (List UInt8)):made c ls=ls.drop (ls.length-c.n.toNat):=by simp[made,h]
theorem chk_kinds (c:Cmd) (h:chk c=0):1<=c.kind/\c.kind<=10:=by
 unfold chk at h
 split at h
 . cases h
 .
  rename_i hu
  unfold uses at hu
  split at hu
  . omega
  . split at hu
    . omega
    . split at hu
      . omega
      . exact absurd rfl hu
theorem made_append (c:Cmd) (h:isEach c.kind=true) (xs ys:List (List UInt8)):made c (xs++ys)=made c xs++made c ys:=by
 have hk:c.kind=1\/c.kind=2\/c.kind=3\/c.kind=4\/c.kind=5:=by
  have:=of_decide_eq_true h
  omega
 rcases hk with hk | hk | hk | hk | hk <;> simp[made,hk]
theorem lines_ended_append (l:List (List UInt8)) (b:List UInt8) (h:∀s∈l,(10:UInt8)∉s):lines (ended l++b)=l++lines b:=by
 induction l with
 | nil=>simp[ended]
 | cons s l ih=>
  have hs:=h s (by simp)
  have:=ih (fun t ht=>h t (by simp[ht]))
  rw[ended_cons,List.append_assoc,List.append_assoc]
  show linesAux [] (s++10::(ended l++b))=_
  rw[linesAux_line s [] _ hs]
  simp only[List.nil_append,List.cons_append,List.cons.injEq,true_and]
  simpa[lines] using this
theorem le_total' (x y:List UInt8):(decide (x<=y) || decide (y<=x))=true:=by
 simp only[Bool.or_eq_true,decide_eq_true_eq]
 exact List.le_total x y
theorem le_trans' (x y z:List UInt8) (h1:decide (x<=y)=true) (h2:decide (y<=z)=true):decide (x<=z)=true:=
 decide_eq_true (List.le_trans (of_decide_eq_true h1) (of_decide_eq_true h2))
theorem sortOf_perm (l:List (List UInt8)):(sortOf l).Perm l:=List.mergeSort_perm _ _
theorem sortOf_sorted (l:List (List UInt8)):(sortOf l).Pairwise (fun x y=>x<=y):=by
 have:=List.pairwise_mergeSort (le:=fun x y:List UInt8=>decide (x<=y)) le_trans' le_total' l
 exact this.imp (fun h=>of_decide_eq_true h)
theorem sorted_unique:∀(l m:List (List UInt8)),l.Perm m->l.Pairwise (fun x y=>x<=y)->m.Pairwise (fun x y=>x<=y)->l=m:=by
 intro l m hp hl hm
 exact hp.eq_of_pairwise (fun a b _ _ h1 h2=>List.le_antisymm h1 h2) hl hm
theorem sortOf_congr {l m:List (List UInt8)} (h:l.Perm m):sortOf l=sortOf m:=
 sorted_unique _ _ (((sortOf_perm l).trans h).trans (sortOf_perm m).symm) (sortOf_sorted l) (sortOf_sorted m)
structure SFile where
 name:List UInt8
 b:List UInt8
def fbad (p:Option (List UInt8)) (f:SFile):Int:=
 if isWord f.name=false then 1
 else if 4000<f.b.length then 2
 else match p with
  | none=>0
  | some q=>if q<f.name then 0 else 6
def fchkFrom:Option (List UInt8)->List SFile->Int
 | _,[]=>0
 | p,f::r=>if fbad p f=0 then fchkFrom (some f.name) r else fbad p f
def fchk (l:List SFile):Int:=if 12<l.length then 2 else fchkFrom none l
def fileOf (l:List SFile) (n:List UInt8):List UInt8:=((l.find? (fun f=>f.name == n)).map SFile.b).getD []
theorem ended_len_sub {l m:List (List UInt8)} (h:l.Sublist m):(ended l).length<=(ended m).length:=by
 induction h with
 | slnil=>exact Nat.le_refl _
 | cons a _ ih=>rw[ended_cons];simp;omega
 | cons_cons a _ ih=>rw[ended_cons,ended_cons];simp;omega
theorem ended_len_perm {l m:List (List UInt8)} (h:l.Perm m):(ended l).length=(ended m).length:=by
 induction h with
 | nil=>rfl
 | cons a _ ih=>rw[ended_cons,ended_cons];simp;omega
 | swap a b l=>simp only[ended_cons,List.length_append];omega
 | trans _ _ h1 h2=>exact h1.trans h2
theorem ended_len_map (f:List UInt8->List UInt8) (hf:∀s,(f s).length<=s.length) (l:List (List UInt8)):(ended (l.map f)).length<=(ended l).length:=by
 induction l with
 | nil=>exact Nat.le_refl _
 | cons s l ih=>
  have:=hf s
  rw[List.map_cons,ended_cons,ended_cons]
  simp
  omega
theorem splitK_len (sep:List UInt8):∀(k:Nat) (s:List UInt8),∀p∈Lib.splitK sep 0 k s,p.length<=s.length:=by
 intro k
 induction k with
 | zero=>intro s p hp;simp[Lib.splitK] at hp;subst hp;exact Nat.le_refl _
 | succ k ih=>
  intro s p hp
  unfold Lib.splitK at hp
  split at hp
  . simp at hp;subst hp;exact Nat.le_refl _
  .
   simp only[List.mem_cons] at hp
   rcases hp with rfl | hp
   . simp;omega
   . have:=ih _ p hp
     simp at this
     omega
theorem fieldOf_len (n:Int) (s:List UInt8):(fieldOf n s).length<=s.length:=by
 unfold fieldOf
 cases h:(Lib.split s [32])[(n-1).toNat]? with
 | none=>simp
 | some p=>exact splitK_len _ _ _ p (mGt h)
theorem splitK_noFeed (sep:List UInt8):∀(k:Nat) (s:List UInt8),(10:UInt8)∉s -> ∀p∈Lib.splitK sep 0 k s,(10:UInt8)∉p:=by
 intro k
 induction k with
 | zero=>intro s hs p hp;simp[Lib.splitK] at hp;subst hp;exact hs
 | succ k ih=>
  intro s hs p hp
  unfold Lib.splitK at hp
  split at hp
  . simp at hp;subst hp;exact hs
  . simp only[List.mem_cons] at hp
    rcases hp with rfl | hp
    . exact fun h=>hs (List.mem_of_mem_take h)
    . exact ih _ (fun h=>hs (List.mem_of_mem_drop h)) p hp
theorem decDigits_len:∀(k u:Nat),u<10 ^ (k+1)->(Lib.decDigits u).length<=k+1:=by
 intro k
 induction k with
 | zero=>intro u h;rw[Lib.decDigits,dif_pos (by simpa using h)];simp
 | succ k ih=>
  intro u h
  rw[Lib.decDigits]
  split
  . simp
  . have:=ih (u / 10) (by rw[Nat.div_lt_iff_lt_mul (by omega)];rw[Nat.pow_succ] at h;exact h)
    simp
    omega
theorem compact_sub (l:List (List UInt8)):(Lib.compact l).Sublist l:=by
 unfold Lib.compact Lib.compactUpTo
 have h:=(List.filter_sublist (p:=Lib.keeps l.toArray) (l:=List.range l.length)).map (fun j=>l.toArray[j]!)
 have e:=Lib.range_map_get l.toArray
 simp only[List.size_toArray] at e
 rw[e] at h
 exact h
theorem chk_le {c:Cmd} (h:chk c=0) (hk:c.kind=3):c.word.length=2/\c.word.all wordByte=true:=by
 unfold chk at h
 have hu:uses c.kind=1:=by rw[hk];rfl
 rw[hu] at h
 by_cases hw:isWord c.word=false
 . simp[hw] at h
   split at h <;> cases h
 .
  by_cases h2:c.word.length=2
  . refine⟨h2,?_⟩
    have:isWord c.word=true:=by simpa using hw
    unfold isWord at this
    simp at this
    simpa using this.2
  . simp[hk,h2] at h
    split at h <;> cases h
theorem noFeed_sub {l m:List (List UInt8)} (h:l.Sublist m) (hm:∀s∈m,(10:UInt8)∉s):∀s∈l,(10:UInt8)∉s:=fun s hs=>hm s (h.subset hs)
theorem sortOf_len (ls:List (List UInt8)):(sortOf ls).length=ls.length:=(sortOf_perm ls).length_eq
def howFor (k:Int):Int:=if k=6 then 2 else if k=8 then 3 else if k=7\/k=9\/k=10 then 4 else 1
def jchk (how:Int) (c:Cmd):Int:=if how<1\/4<how then 4 else if how=4 then chk c else if c.kind=0/\c.word=[]/\c.n=0 then 0 else 4
def numOf (s:List UInt8):Nat:=((List.range 4001).find? (fun (k:Nat)=>Lib.itoa (k:Int) == s)).getD 0
def headNum (l:List (List UInt8)):Nat:=((l.head?).map numOf).getD 0
def sumOf (ps:List (List (List UInt8))):Nat:=(ps.map headNum).sum
def leastTo (ps:List (List (List UInt8))):Nat->Option (Nat × List UInt8)
 | 0=>none
 | k+1=>match (ps[k]?).bind List.head? with
  | none=>leastTo ps k
  | some s=>match leastTo ps k with
   | none=>some (k,s)
   | some (j,t)=>if s<t then some (k,s) else some (j,t)
def least (ps:List (List (List UInt8))):Option (Nat × List UInt8):=leastTo ps ps.length
def mergeN:Nat->List (List (List UInt8))->List (List UInt8)
 | 0,_=>[]
 | n+1,ps=>match least ps with
  | none=>[]
  | some (k,s)=>s::mergeN n (ps.modify k (List.drop 1))
def mergeOf (ps:List (List (List UInt8))):List (List UInt8):=mergeN ps.flatten.length ps
def joined (how:Int) (c:Cmd) (ps:List (List (List UInt8))):List (List UInt8):=
 if how=2 then mergeOf ps else if how=3 then [Lib.itoa (sumOf ps:Int)] else if how=4 then made c ps.flatten else ps.flatten
def decVal (s:List UInt8):Nat:=s.foldl (fun a c=>10*a+(c.toNat-48)) 0
theorem decVal_digits:∀u:Nat,decVal (Lib.decDigits u)=u:=by
 intro u
 induction u using Nat.strongRecOn with
 | ind u ih=>
  rw[Lib.decDigits]
  split
  . simp[decVal]
    omega
  .
   rename_i h
   have:=ih (u / 10) (by omega)
   unfold decVal at this ⊢
   rw[List.foldl_append,this]
   simp
   omega
theorem itoa_inj {a b:Nat} (h:Lib.itoa (a:Int)=Lib.itoa (b:Int)):a=b:=by
 unfold Lib.itoa at h
 rw[if_neg (by omega),if_neg (by omega)] at h
 simp only[Int.toNat_natCast] at h
 rw[<- decVal_digits a,<- decVal_digits b,h]
theorem numOf_itoa (k:Nat) (h:k<=4000):numOf (Lib.itoa (k:Int))=k:=by
 unfold numOf
 cases hf:(List.range 4001).find? (fun (j:Nat)=>Lib.itoa (j:Int) == Lib.itoa (k:Int)) with
 | none=>
  have:=List.find?_eq_none.1 hf k (List.mem_range.2 (by omega))
  simp at this
 | some j=>
  have:=List.find?_some hf
  simp only[beq_iff_eq] at this
  simp[itoa_inj this]
theorem numOf_none {s:List UInt8} (h:∀k:Nat,k<=4000->Lib.itoa (k:Int)≠s):numOf s=0:=by
 unfold numOf
 rw[List.find?_eq_none.2]
 . rfl
 . intro k hk
   simpa using h k (by have:=List.mem_range.1 hk;omega)
theorem numOf_le (s:List UInt8):numOf s<=4000:=by
 unfold numOf
 cases hf:(List.range 4001).find? (fun (j:Nat)=>Lib.itoa (j:Int) == s) with
 | none=>simp
 | some j=>
  have:=List.mem_range.1 (List.mem_of_find?_eq_some hf)
  simp
  omega
theorem headNum_le (l:List (List UInt8)):headNum l<=4000:=by
 unfold headNum
 cases l with
 | nil=>simp
 | cons s r=>simpa using numOf_le s
theorem sumOf_le (ps:List (List (List UInt8))):sumOf ps<=4000*ps.length:=by
 unfold sumOf
 induction ps with
 | nil=>simp
 | cons p ps ih=>
  have:=headNum_le p
  simp only[List.map_cons,List.sum_cons,List.length_cons]
  omega
theorem sumOf_take {ps:List (List (List UInt8))} {k:Nat} {p:List (List UInt8)} (h:ps[k]? = some p):sumOf (ps.take (k+1))=sumOf (ps.take k)+headNum p:=by
 unfold sumOf
 rw[List.take_add_one,h]
 simp
theorem leastTo_some (ps:List (List (List UInt8))):∀(k:Nat) (j:Nat) (t:List UInt8),leastTo ps k=some (j,t)->j<k/\(ps[j]?).bind List.head? = some t /\ ∀i,i<k -> ∀s,(ps[i]?).bind List.head? = some s->t<=s:=by
 intro k
 induction k with
 | zero=>intro j t h;cases h
 | succ k ih=>
  intro j t h
  unfold leastTo at h
  cases hk:(ps[k]?).bind List.head? with
  | none=>
   rw[hk] at h
   obtain⟨h1,h2,h3⟩:=ih j t h
   refine⟨by omega,h2,fun i hi s hs=>?_⟩
   rcases Nat.lt_or_ge i k with h' | h'
   . exact h3 i h' s hs
   . obtain rfl:i=k:=by omega
     rw[hk] at hs;cases hs
  | some s=>
   rw[hk] at h
   simp only at h
   cases hl:leastTo ps k with
   | none=>
    rw[hl] at h
    simp only[Option.some.injEq,Prod.mk.injEq] at h
    obtain⟨rfl,rfl⟩:=h
    refine⟨by omega,hk,fun i hi s' hs=>?_⟩
    rcases Nat.lt_or_ge i k with h' | h'
    .
     exfalso
     clear ih hk
     have:∀m,leastTo ps m=none -> ∀i,i<m->(ps[i]?).bind List.head? = none:=by
      intro m
      induction m with
      | zero=>intro _ i hi;omega
      | succ m ihm=>
       intro hm i hi
       unfold leastTo at hm
       cases hb:(ps[m]?).bind List.head? with
       | none=>
        rw[hb] at hm
        rcases Nat.lt_or_ge i m with h'' | h''
        . exact ihm hm i h''
        . obtain rfl:i=m:=by omega
          exact hb
       | some x=>
        rw[hb] at hm
        simp only at hm
        split at hm
        . cases hm
        . split at hm <;> cases hm
     rw[this k hl i h'] at hs
     cases hs
    . obtain rfl:i=k:=by omega
      rw[hk] at hs
      injection hs with hs
      rw[hs];exact List.le_refl _
   | some p=>
    obtain⟨j',t'⟩:=p
    rw[hl] at h
    simp only at h
    obtain⟨h1,h2,h3⟩:=ih j' t' hl
    by_cases hlt:s<t'
    .
     rw[if_pos hlt] at h
     simp only[Option.some.injEq,Prod.mk.injEq] at h
     obtain⟨rfl,rfl⟩:=h
     refine⟨by omega,hk,fun i hi s' hs=>?_⟩
     rcases Nat.lt_or_ge i k with h' | h'
     . exact List.le_trans (List.le_of_lt hlt) (h3 i h' s' hs)
     . obtain rfl:i=k:=by omega
       rw[hk] at hs
       injection hs with hs
       rw[hs];exact List.le_refl _
    .
     rw[if_neg hlt] at h
     simp only[Option.some.injEq,Prod.mk.injEq] at h
     obtain⟨rfl,rfl⟩:=h
     refine⟨by omega,h2,fun i hi s' hs=>?_⟩
     rcases Nat.lt_or_ge i k with h' | h'
     . exact h3 i h' s' hs
     . obtain rfl:i=k:=by omega
       rw[hk] at hs
       injection hs with hs
       rw[<- hs];exact List.not_lt.1 hlt
theorem leastTo_none (ps:List (List (List UInt8))):∀m,leastTo ps m=none -> ∀i,i<m->(ps[i]?).bind List.head? = none:=by
 intro m
 induction m with
 | zero=>intro _ i hi;omega
 | succ m ihm=>
  intro hm i hi
  unfold leastTo at hm
  cases hb:(ps[m]?).bind List.head? with
  | none=>
   rw[hb] at hm
   rcases Nat.lt_or_ge i m with h'' | h''
   . exact ihm hm i h''
   . obtain rfl:i=m:=by omega
     exact hb
  | some x=>
   rw[hb] at hm
   simp only at hm
   split at hm
   . cases hm
   . split at hm <;> cases hm
theorem least_some {ps:List (List (List UInt8))} {k:Nat} {s:List UInt8} (h:least ps=some (k,s)):∃r,ps[k]? = some (s::r) /\ ∀p∈ps,∀x,p.head? = some x->s<=x:=by
 obtain⟨h1,h2,h3⟩:=leastTo_some ps _ k s h
 cases hp:ps[k]? with
 | none=>rw[hp] at h2;cases h2
 | some p=>
  rw[hp] at h2
  cases p with
  | nil=>cases h2
  | cons x r=>
   simp only[Option.bind_some,List.head?_cons,Option.some.injEq] at h2
   refine⟨r,by rw[h2],fun p hp x hx=>?_⟩
   obtain⟨i,hi,rfl⟩:=List.mem_iff_getElem.1 hp
   exact h3 i hi x (by rw[gEl hi];exact hx)
theorem least_none {ps:List (List (List UInt8))} (h:least ps=none):ps.flatten=[]:=by
 have:=leastTo_none ps _ h
 rw[List.flatten_eq_nil_iff]
 intro p hp
 obtain⟨i,hi,rfl⟩:=List.mem_iff_getElem.1 hp
 have:=this i hi
 rw[gEl hi] at this
 simpa using this
theorem modify_flatten {ps:List (List (List UInt8))}:∀{k:Nat} {s:List UInt8} {r:List (List UInt8)},ps[k]? = some (s::r)->ps.flatten.Perm (s::(ps.modify k (List.drop 1)).flatten):=by
 induction ps with
 | nil=>intro k s r h;simp at h
 | cons p ps ih=>
  intro k s r h
  cases k with
  | zero=>
   simp only[List.getElem?_cons_zero,Option.some.injEq] at h
   subst h
   simp
  | succ k=>
   simp only[List.getElem?_cons_succ] at h
   simp only[List.modify_succ_cons,List.flatten_cons]
   exact ((ih h).append_left p).trans List.perm_middle
theorem modify_length {ps:List (List (List UInt8))} {k:Nat} {s:List UInt8} {r:List (List UInt8)} (h:ps[k]? = some (s::r)):ps.flatten.length=(ps.modify k (List.drop 1)).flatten.length+1:=by
 have:=(modify_flatten h).length_eq
 simpa using this
theorem mergeN_perm:∀(n:Nat) (ps:List (List (List UInt8))),ps.flatten.length=n->(mergeN n ps).Perm ps.flatten:=by
 intro n
 induction n with
 | zero=>intro ps h;rw[List.eq_nil_of_length_eq_zero h];exact List.Perm.nil
 | succ n ih=>
  intro ps h
  unfold mergeN
  cases hl:least ps with
  | none=>rw[least_none hl] at h;cases h
  | some q=>
   obtain⟨k,s⟩:=q
   obtain⟨r,hr,_⟩:=least_some hl
   have hm:=modify_length hr
   exact ((ih _ (by omega)).cons s).trans (modify_flatten hr).symm
theorem mergeN_sorted:∀(n:Nat) (ps:List (List (List UInt8))),ps.flatten.length=n->(∀p∈ps,p.Pairwise (fun x y=>x<=y))->(mergeN n ps).Pairwise (fun x y=>x<=y):=by
 intro n
 induction n with
 | zero=>intro ps h _;exact List.Pairwise.nil
 | succ n ih=>
  intro ps h hs
  unfold mergeN
  cases hl:least ps with
  | none=>exact List.Pairwise.nil
  | some q=>
   obtain⟨k,s⟩:=q
   obtain⟨r,hr,hle⟩:=least_some hl
   have hm:=modify_length hr
   simp only
   refine List.Pairwise.cons ?_ (ih _ (by omega) ?_)
   .
    intro x hx
    have hx':x∈ps.flatten:=(modify_flatten hr).mem_iff.2 (List.mem_cons_of_mem _ ((mergeN_perm n _ (by omega)).mem_iff.1 hx))
    obtain⟨p,hp,hxp⟩:=List.mem_flatten.1 hx'
    have hsp:=hs p hp
    cases p with
    | nil=>cases hxp
    | cons y q=>
     have h1:=hle _ hp y rfl
     rcases List.mem_cons.1 hxp with rfl | hxq
     . exact h1
     . exact List.le_trans h1 ((List.pairwise_cons.1 hsp).1 x hxq)
   .
    intro p hp
    obtain⟨i,hi,rfl⟩:=List.mem_iff_getElem.1 hp
    rw[List.getElem_modify]
    have hi':i<ps.length:=by simpa using hi
    split
    . exact (hs _ (List.getElem_mem hi')).sublist (List.drop_sublist _ _)
    . exact hs _ (List.getElem_mem hi')
theorem mergeOf_sorted (ps:List (List (List UInt8))) (h:∀p∈ps,p.Pairwise (fun x y=>x<=y)):mergeOf ps=sortOf ps.flatten:=
 sorted_unique _ _ ((mergeN_perm _ _ rfl).trans (sortOf_perm _).symm) (mergeN_sorted _ _ rfl h) (sortOf_sorted _)
theorem mergeOf_perm (ps:List (List (List UInt8))):(mergeOf ps).Perm ps.flatten:=mergeN_perm _ _ rfl
theorem last_cons (s:List UInt8) (a:List (List UInt8)) (p:Option (List UInt8)):(s::a).getLast?.or p=a.getLast?.or (some s):=by
 rw[List.getLast?_cons]
 cases h:a.getLast? <;> simp
def comp:Option (List UInt8)->List (List UInt8)->List (List UInt8)
 | _,[]=>[]
 | p,s::r=>if p=some s then comp p r else s::comp (some s) r
theorem comp_append (a b:List (List UInt8)):∀p,comp p (a++b)=comp p a++comp (a.getLast?.or p) b:=by
 induction a with
 | nil=>intro p;rfl
 | cons s a ih=>
  intro p
  rw[List.cons_append,comp,comp,ih,ih]
  have e:=last_cons s a p
  rw[e]
  split
  . rename_i hp;rw[hp]
  . rfl
theorem comp_last (a:List (List UInt8)):∀p,(comp p a).getLast?.or p=a.getLast?.or p:=by
 induction a with
 | nil=>intro p;rfl
 | cons s a ih=>
  intro p
  have e:=last_cons s a p
  rw[e,comp]
  split
  . rename_i hp;rw[ih p,hp]
  . rw[last_cons];exact ih _
theorem comp_comp (a:List (List UInt8)):∀p q,(q=none\/q=p)->comp p (comp q a)=comp p a:=by
 induction a with
 | nil=>intro p q _;rfl
 | cons s a ih=>
  intro p q hq
  by_cases hqs:q=some s
  . rcases hq with h | h
    . rw[h] at hqs;cases hqs
    . subst h
      rw[comp,if_pos hqs]
      rw[ih q q (.inr rfl)]
  .
   conv=>lhs;rw[comp,if_neg hqs]
   rw[comp]
   conv=>rhs;rw[comp]
   split
   . rename_i hp;rw[hp];exact ih _ _ (.inr rfl)
   . rw[ih _ _ (.inr rfl)]
theorem comp_flatten (ps:List (List (List UInt8))):∀p,comp p (ps.map (comp none)).flatten=comp p ps.flatten:=by
 induction ps with
 | nil=>intro p;rfl
 | cons a ps ih=>
  intro p
  rw[List.map_cons,List.flatten_cons,List.flatten_cons,comp_append,comp_append,comp_comp _ _ _ (.inl rfl),ih]
  have:=comp_last a none
  simp only[Option.or_none] at this
  rw[this]
theorem compactUpTo_comp (l:List (List UInt8)):∀m,m<=l.length->Lib.compactUpTo l.toArray m=comp none (l.take m):=by
 intro m
 induction m with
 | zero=>intro _;rfl
 | succ m ih=>
  intro h
  rw[Lib.compactUpTo_succ,ih (by omega),List.take_add_one,gEl (show m<l.length by omega),Option.toList_some,comp_append]
  congr 1
  have e1:l.toArray[m]! = l[m]:=by simp[getElem!_pos,show m<l.length by omega]
  unfold Lib.keeps
  rw[e1,Option.or_none,comp,comp]
  by_cases h0:m=0
  . subst h0;simp[comp]
  .
   have e2:l.toArray[m-1]! = l[m-1]:=by simp[getElem!_pos,show m-1<l.length by omega]
   have e3:(l.take m).getLast? = some l[m-1]:=by
    rw[List.getLast?_eq_getElem?,List.length_take,Nat.min_eq_left (by omega),List.getElem?_take,if_pos (by omega),gEl (by omega)]
   rw[e2,e3]
   by_cases hx:l[m-1]=l[m]
   . simp[hx,h0]
   . simp[hx,h0,Ne.symm hx,comp]
theorem compact_comp (l:List (List UInt8)):Lib.compact l=comp none l:=by
 unfold Lib.compact
 rw[compactUpTo_comp l _ (Nat.le_refl _),List.take_length]
theorem compact_flatten (ps:List (List (List UInt8))):Lib.compact (ps.map Lib.compact).flatten=Lib.compact ps.flatten:=by
 have e:(Lib.compact:List (List UInt8)->List (List UInt8))=comp none:=funext compact_comp
 rw[e]
 exact comp_flatten ps none
theorem take_flatten {α:Type} (n:Nat) (ps:List (List α)):∀m,m<=n->(ps.map (List.take n)).flatten.take m=ps.flatten.take m:=by
 induction ps with
 | nil=>intro m _;rfl
 | cons a ps ih=>
  intro m hm
  rw[List.map_cons,List.flatten_cons,List.flatten_cons,List.take_append,List.take_append,List.take_take,Nat.min_eq_left hm,List.length_take]
  congr 1
  have e:m-min n a.length=m-a.length:=by omega
  rw[e]
  exact ih _ (by omega)
def lastOf {α:Type} (n:Nat) (l:List α):List α:=l.drop (l.length-n)
theorem lastOf_eq {α:Type} (n:Nat) (l:List α):lastOf n l=(l.reverse.take n).reverse:=by
 unfold lastOf
 rw[List.take_reverse,List.reverse_reverse]
theorem last_flatten {α:Type} (n:Nat) (ps:List (List α)):lastOf n (ps.map (lastOf n)).flatten=lastOf n ps.flatten:=by
 rw[lastOf_eq,lastOf_eq]
 congr 1
 rw[List.reverse_flatten,List.reverse_flatten,List.map_map]
 have e:(List.reverse ∘ lastOf n:List α->List α)=List.take n ∘ List.reverse:=by
  funext l
  simp[lastOf_eq]
 rw[e,<- List.map_map,<- List.map_reverse]
 exact take_flatten n _ n (Nat.le_refl _)
theorem count_sum (ps:List (List (List UInt8))) (h:∀p∈ps,p.length<=4000):sumOf (ps.map fun p=>[Lib.itoa (p.length:Int)])=ps.flatten.length:=by
 unfold sumOf
 induction ps with
 | nil=>rfl
 | cons p ps ih=>
  have:=ih (fun q hq=>h q (by simp[hq]))
  simp only[List.map_cons,List.sum_cons,List.flatten_cons,List.length_append] at this ⊢
  rw[this]
  have hn:headNum [Lib.itoa (p.length:Int)]=p.length:=by
   unfold headNum
   rw[List.head?_cons,Option.map_some,Option.getD_some,numOf_itoa p.length (h p (by simp))]
  rw[hn]
theorem join_whole (c:Cmd) (hc:chk c=0) (ps:List (List (List UInt8))) (h:∀p∈ps,p.length<=4000):joined (howFor c.kind) c (ps.map (made c))=made c ps.flatten:=by
 have hk:=chk_kinds c hc
 have:c.kind=1\/c.kind=2\/c.kind=3\/c.kind=4\/c.kind=5\/c.kind=6\/c.kind=7\/c.kind=8\/c.kind=9\/c.kind=10:=by omega
 have each:isEach c.kind=true->(ps.map (made c)).flatten=made c ps.flatten:=by
  intro he
  clear h
  induction ps with
  | nil=>
   have hk:c.kind=1\/c.kind=2\/c.kind=3\/c.kind=4\/c.kind=5:=by
    have:=of_decide_eq_true he
    omega
   rcases hk with hk | hk | hk | hk | hk <;> simp[made,hk]
  | cons p ps ih=>rw[List.map_cons,List.flatten_cons,List.flatten_cons,made_append c he,ih]
 rcases this with e | e | e | e | e | e | e | e | e | e
 . simpa[joined,howFor,e] using each (by simp[isEach,e])
 . simpa[joined,howFor,e] using each (by simp[isEach,e])
 . simpa[joined,howFor,e] using each (by simp[isEach,e])
 . simpa[joined,howFor,e] using each (by simp[isEach,e])
 . simpa[joined,howFor,e] using each (by simp[isEach,e])
 .
  have e1:joined (howFor c.kind) c (ps.map (made c))=mergeOf (ps.map (made c)):=by simp[joined,howFor,e]
  have e2:made c=sortOf:=funext (made6 c e)
  rw[e1,e2,mergeOf_sorted _ (by
   intro p hp
   obtain⟨q,_,rfl⟩:=List.mem_map.1 hp
   exact sortOf_sorted q)]
  apply sortOf_congr
  clear h each e1
  induction ps with
  | nil=>exact List.Perm.nil
  | cons p ps ih=>
   rw[List.map_cons,List.flatten_cons,List.flatten_cons]
   exact (sortOf_perm p).append ih
 . have e1:joined (howFor c.kind) c (ps.map (made c))=made c (ps.map (made c)).flatten:=by simp[joined,howFor,e]
   have e2:made c=Lib.compact:=funext (made7 c e)
   rw[e1,e2]
   exact compact_flatten ps
 . have e1:joined (howFor c.kind) c (ps.map (made c))=[Lib.itoa (sumOf (ps.map (made c)):Int)]:=by simp[joined,howFor,e]
   have e2:made c=fun p=>[Lib.itoa (p.length:Int)]:=funext (made8 c e)
   rw[e1,e2,count_sum ps h]
 . have e1:joined (howFor c.kind) c (ps.map (made c))=made c (ps.map (made c)).flatten:=by simp[joined,howFor,e]
   have e2:made c=List.take c.n.toNat:=funext (made9 c e)
   rw[e1,e2]
   exact take_flatten _ ps _ (Nat.le_refl _)
 . have e1:joined (howFor c.kind) c (ps.map (made c))=made c (ps.map (made c)).flatten:=by simp[joined,howFor,e]
   have e2:made c=lastOf c.n.toNat:=funext (made10 c e)
   rw[e1,e2]
   exact last_flatten _ ps
theorem decDigits_noFeed:∀u:Nat,(10:UInt8)∉Lib.decDigits u:=by
 intro u
 induction u using Nat.strongRecOn with
 | ind u ih=>
  have hd:∀d:Nat,d<10->(10:UInt8)≠UInt8.ofNat (48+d):=by
   intro d hd e
   have:d=0\/d=1\/d=2\/d=3\/d=4\/d=5\/d=6\/d=7\/d=8\/d=9:=by omega
   rcases this with rfl | rfl | rfl | rfl | rfl | rfl | rfl | rfl | rfl | rfl <;> exact absurd e (by decide)
  rw[Lib.decDigits]
  split
  . rename_i h
    simp only[List.mem_singleton]
    exact hd u h
  . simp only[List.mem_append,List.mem_singleton,not_or]
    exact⟨ih (u / 10) (by omega),hd _ (Nat.mod_lt _ (by omega))⟩
theorem itoa_noFeed (n:Nat):(10:UInt8)∉Lib.itoa (n:Int):=by
 unfold Lib.itoa
 rw[if_neg (by omega)]
 exact decDigits_noFeed _
theorem made_noFeed (c:Cmd) (hc:chk c=0) (ls:List (List UInt8)) (h:∀s∈ls,(10:UInt8)∉s):∀s∈made c ls,(10:UInt8)∉s:=by
 have hk:=chk_kinds c hc
 have:c.kind=1\/c.kind=2\/c.kind=3\/c.kind=4\/c.kind=5\/c.kind=6\/c.kind=7\/c.kind=8\/c.kind=9\/c.kind=10:=by omega
 rcases this with e | e | e | e | e | e | e | e | e | e
 . rw[made1 c e];exact noFeed_sub List.filter_sublist h
 . rw[made2 c e];exact noFeed_sub List.filter_sublist h
 .
  rw[made3 c e]
  intro s hs hm
  obtain⟨t,ht,rfl⟩:=List.mem_map.1 hs
  obtain⟨h2,hw⟩:=chk_le hc e
  unfold swapOf at hm
  obtain⟨y,hy,hxy⟩:=List.mem_map.1 hm
  split at hxy
  . have:wordByte (c.word.getD 1 0)=true:=by
     match hcw:c.word,h2,hw with
     | [x,y],_,hw=>simp at hw;simpa using hw.2
    rw[hxy] at this
    exact absurd this (by decide)
  . exact h t ht (hxy ▸ hy)
 .
  rw[made4 c e]
  intro s hs
  obtain⟨t,ht,rfl⟩:=List.mem_map.1 hs
  unfold fieldOf
  cases hf:(Lib.split t [32])[(c.n-1).toNat]? with
  | none=>simp
  | some p=>exact splitK_noFeed _ _ _ (h t ht) p (mGt hf)
 . rw[made5 c e]
   intro s hs
   obtain⟨t,ht,rfl⟩:=List.mem_map.1 hs
   simpa using h t ht
 . rw[made6 c e];exact fun s hs=>h s ((sortOf_perm ls).mem_iff.1 hs)
 . rw[made7 c e];exact noFeed_sub (compact_sub ls) h
 . rw[made8 c e]
   intro s hs
   rw[List.mem_singleton.1 hs]
   exact itoa_noFeed _
 . rw[made9 c e];exact noFeed_sub (List.take_sublist _ _) h
 . rw[made10 c e];exact noFeed_sub (List.drop_sublist _ _) h
theorem joined_noFeed (how:Int) (c:Cmd) (hc:how=4->chk c=0) (ps:List (List (List UInt8))) (h:∀p∈ps,∀s∈p,(10:UInt8)∉s):∀s∈joined how c ps,(10:UInt8)∉s:=by
 have hf:∀s∈ps.flatten,(10:UInt8)∉s:=by
  intro s hs
  obtain⟨p,hp,hsp⟩:=List.mem_flatten.1 hs
  exact h p hp s hsp
 unfold joined
 split
 . exact fun s hs=>hf s ((mergeOf_perm ps).mem_iff.1 hs)
 .
  split
  . intro s hs
    rw[List.mem_singleton.1 hs]
    exact itoa_noFeed _
  . split
    . rename_i h4;exact made_noFeed c (hc h4) _ hf
    . exact hf
end Go.Gs
namespace Go.Gs
open Go.RowKit
structure SNode where
 kind:Int
 file:List UInt8
 c:Cmd
 how:Int
 wide:Int
 ins:List (Int × Int)
def nouts (n:SNode):Int:=if n.kind=2 then n.wide else if n.kind=5 then 0 else 1
def zeroC (c:Cmd):Bool:=decide (c.kind=0) && c.word.isEmpty && decide (c.n=0)
def nodeUsed (n:SNode):Int:=
 if n.kind=1\/n.kind=5 then (if isWord n.file then 0 else 1)
 else if n.kind=2 then (if n.wide<1\/5<n.wide then 3 else 0)
 else if n.kind=3 then chk n.c
 else if n.kind=4 then jchk n.how n.c
 else 4
def mayHave (k:Int) (m:Nat):Bool:=if k=1 then decide (m=0) else if k=4 then decide (1<=m/\m<=5) else decide (m=1)
def hasUnused (n:SNode):Bool:=
 (!decide (n.kind=1\/n.kind=5) && !n.file.isEmpty) || (!decide (n.kind=2) && !decide (n.wide=0)) || (!decide (n.kind=3\/n.kind=4) && !zeroC n.c) || (!decide (n.kind=4) && !decide (n.how=0))
def nodeChk (n:SNode):Int:=if nodeUsed n≠0 then nodeUsed n else if !mayHave n.kind n.ins.length || hasUnused n then 4 else 0
def portOk (ns:List SNode) (p:Int × Int):Bool:=decide (0<=p.1) && decide (p.1<ns.length) && decide (0<=p.2) && ((ns[p.1.toNat]?).map (fun n=>decide (p.2<nouts n))).getD false
def insChk (ahead:List SNode):List (Int × Int)->List (Int × Int)->Int × List (Int × Int)
 | [],t=>(0,t)
 | p::r,t=>if portOk ahead p=false then (5,t) else if p∈t then (6,t) else insChk ahead r (t++[p])
def gchkL:List SNode->List SNode->List (Int × Int)->Int × List (Int × Int)
 | _,[],t=>(0,t)
 | ahead,n::r,t=>
  if nodeChk n≠0 then (nodeChk n,t)
  else if (insChk ahead n.ins t).1≠0 then insChk ahead n.ins t
  else if r.isEmpty≠decide (n.kind=5) then (4,t)
  else gchkL (ahead++[n]) r (insChk ahead n.ins t).2
def allOuts (ns:List SNode):Int:=(ns.map nouts).sum
def gchk (ns:List SNode):Int:=
 if 60<ns.length then 2
 else if (gchkL [] ns []).1≠0 then (gchkL [] ns []).1
 else if ns.length=0\/((gchkL [] ns []).2.length:Int)≠allOuts ns then 4
 else 0
def portAt (outs:List (List (List UInt8))) (p:Int × Int):List UInt8:=((outs[p.1.toNat]?).getD [])[p.2.toNat]?.getD []
def partOf (bs:List UInt8) (p k:Nat):List UInt8:=ended (((lines bs).take ((k+1)*(lines bs).length / p)).drop (k*(lines bs).length / p))
def nodeMade (n:SNode) (fs:List SFile) (ins:List (List UInt8)):List (List UInt8):=
 if n.kind=1 then [ended (lines (fileOf fs n.file))]
 else if n.kind=2 then (List.range n.wide.toNat).map (partOf (ins.head?.getD []) n.wide.toNat)
 else if n.kind=3 then [ended (made n.c (lines (ins.head?.getD [])))]
 else if n.kind=4 then [ended (joined n.how n.c (ins.map lines))]
 else []
def outsL (fs:List SFile):List (List (List UInt8))->List SNode->List (List (List UInt8))
 | acc,[]=>acc
 | acc,n::r=>outsL fs (acc++[nodeMade n fs (n.ins.map (portAt acc))]) r
def sunk (ns:List SNode) (fs:List SFile):List UInt8:=((ns.getLast?).map (fun n=>portAt (outsL fs [] ns) (n.ins.head?.getD (0,0)))).getD []
def evalS (ns:List SNode) (fs:List SFile):List UInt8 × Int:=if gchk ns≠0 then ([],gchk ns) else if fchk fs≠0 then ([],fchk fs) else (sunk ns fs,0)
end Go.Gs
namespace Go.Gs
open Go.RowKit
set_option linter.unusedVariables false
def RCmds (w:World) (v:Value) (cs:List Cmd):Prop:=
 ∃ao cap,v=.slice ao cs.length cap/\cs.length<=cap/\cap<=maxLen /\
  (cs.length≠0 -> ∃b off,ao=some ⟨b,off,none⟩ /\ ∀j c,cs[j]? = some c->w.cell? ⟨b,off+j*3,none⟩=some (.int .i64 c.kind)/\w.cell? ⟨b,off+j*3+1,none⟩=some (.string ⟨c.word.toArray⟩)/\w.cell? ⟨b,off+j*3+2,none⟩=some (.int .i64 c.n))
theorem RCmds.below {w w':World} {v:Value} {cs:List Cmd} (h:RCmds w v cs) (hb:Below w.heap.size w w'):RCmds w' v cs:=by
 obtain⟨ao,cap,rfl,h2,h3,h4⟩:=h
 refine⟨ao,cap,rfl,h2,h3,fun hn=>?_⟩
 obtain⟨b,off,rfl,hc⟩:=h4 hn
 refine⟨b,off,rfl,fun j c hj=>?_⟩
 obtain⟨a1,a2,a3⟩:=hc j c hj
 exact⟨(hb.cell (bLt w _ a1)).trans a1,(hb.cell (bLt w _ a2)).trans a2,(hb.cell (bLt w _ a3)).trans a3⟩
theorem RCmds.shape {w:World} {v:Value} {cs:List Cmd} (h:RCmds w v cs):∃ao cap,v=.slice ao cs.length cap/\cs.length<=cap/\cap<=maxLen:=by
 obtain⟨ao,cap,h1,h2,h3,_⟩:=h
 exact⟨ao,cap,h1,h2,h3⟩
theorem RCmds.at {w:World} {ao:Option Addr} {n cap:Nat} {cs:List Cmd} (h:RCmds w (.slice ao n cap) cs) {k:Nat} {c:Cmd} (hk:cs[k]? = some c) :
 ∃b off,ao=some ⟨b,off,none⟩/\w.cell? ⟨b,off+k*3,none⟩=some (.int .i64 c.kind)/\w.cell? ⟨b,off+k*3+1,none⟩=some (.string ⟨c.word.toArray⟩)/\w.cell? ⟨b,off+k*3+2,none⟩=some (.int .i64 c.n):=by
 obtain⟨ao',cap',e,_,_,h5⟩:=h
 injection e with e1 e2 e3
 subst e1
 obtain⟨hkl,_⟩:=gSm hk
 obtain⟨b,off,hao,hc⟩:=h5 (by omega)
 exact⟨b,off,hao,hc k c hk⟩
theorem Reads.shape {w:World} {v:Value} {n:Nat} {xs:List Value} (h:Reads w v n xs):∃ao cap,v=.slice ao n cap/\n<=cap/\cap<=maxLen:=by
 obtain⟨_,ao,cap,h1,h2,h3,_⟩:=h
 exact⟨ao,cap,h1,h2,h3⟩
theorem Reads.at {w:World} {ao:Option Addr} {n cap:Nat} {fr:List (List UInt8)} (h:Reads w (.slice ao n cap) n (fr.map S)) {k:Nat} {s:List UInt8} (hk:fr[k]? = some s) :
 ∃b off,ao=some ⟨b,off,none⟩/\w.cell? ⟨b,off+k,none⟩=some (.string ⟨s.toArray⟩):=by
 obtain⟨h1,ao',cap',e,_,_,h5⟩:=h
 injection e with e1 e2 e3
 subst e1
 obtain⟨hkl,_⟩:=gSm hk
 rw[List.length_map] at h1
 obtain⟨b,off,hao,hc⟩:=h5 (by omega)
 exact⟨b,off,hao,hc k (S s) (by rw[List.getElem?_map,hk];rfl)⟩
def FitsC (cs:List Cmd):Prop:=∀c∈cs,c.word.length<=9223372036854775807
def FitsL (x:SLine):Prop:=(∀s∈x.fr,s.length<=9223372036854775807)/\FitsC x.cs/\x.tu.length<=9223372036854775807
def RFiles (w:World) (v:Value) (fs:List SFile):Prop:=
 ∃ao cap,v=.slice ao fs.length cap/\fs.length<=cap/\cap<=maxLen /\
  (fs.length≠0 -> ∃b off,ao=some ⟨b,off,none⟩ /\ ∀j f,fs[j]? = some f -> ∃vb,w.cell? ⟨b,off+j*2,none⟩=some (.string ⟨f.name.toArray⟩)/\w.cell? ⟨b,off+j*2+1,none⟩=some vb/\Reads w vb f.b.length (f.b.map U))
theorem RFiles.below {w w':World} {v:Value} {fs:List SFile} (h:RFiles w v fs) (hb:Below w.heap.size w w'):RFiles w' v fs:=by
 obtain⟨ao,cap,rfl,h2,h3,h4⟩:=h
 refine⟨ao,cap,rfl,h2,h3,fun hn=>?_⟩
 obtain⟨b,off,rfl,hc⟩:=h4 hn
 refine⟨b,off,rfl,fun j c hj=>?_⟩
 obtain⟨vb,a1,a2,a3⟩:=hc j c hj
 exact⟨vb,(hb.cell (bLt w _ a1)).trans a1,(hb.cell (bLt w _ a2)).trans a2,a3.below hb⟩
theorem RFiles.shape {w:World} {v:Value} {fs:List SFile} (h:RFiles w v fs):∃ao cap,v=.slice ao fs.length cap/\fs.length<=cap/\cap<=maxLen:=by
 obtain⟨ao,cap,h1,h2,h3,_⟩:=h
 exact⟨ao,cap,h1,h2,h3⟩
theorem RFiles.at {w:World} {ao:Option Addr} {n cap:Nat} {fs:List SFile} (h:RFiles w (.slice ao n cap) fs) {k:Nat} {f:SFile} (hk:fs[k]? = some f) :
 ∃b off ab cb,ao=some ⟨b,off,none⟩/\w.cell? ⟨b,off+k*2,none⟩=some (.string ⟨f.name.toArray⟩)/\w.cell? ⟨b,off+k*2+1,none⟩=some (.slice ab f.b.length cb)/\Reads w (.slice ab f.b.length cb) f.b.length (f.b.map U):=by
 obtain⟨ao',cap',e,_,_,h5⟩:=h
 injection e with e1 e2 e3
 subst e1
 obtain⟨hkl,_⟩:=gSm hk
 obtain⟨b,off,hao,hc⟩:=h5 (by omega)
 obtain⟨vb,a1,a2,a3⟩:=hc k f hk
 obtain⟨ab,cb,rfl,_,_⟩:=a3.shape
 exact⟨b,off,ab,cb,hao,a1,a2,a3⟩
theorem rfiles_le {w:World} {ao:Option Addr} {n cap:Nat} {fs:List SFile} (h:RFiles w (.slice ao n cap) fs):n<=cap/\cap<=9223372036854775807:=by
 obtain⟨_,c,e,h1,h2⟩:=h.shape
 unfold maxLen at h2
 injection e with e1 e2 e3
 omega
def FitsF (f:SFile):Prop:=f.name.length<=9223372036854775807
def RPorts (w:World) (v:Value) (ps:List (Int × Int)):Prop:=
 ∃ao cap,v=.slice ao ps.length cap/\ps.length<=cap/\cap<=maxLen /\
  (ps.length≠0 -> ∃b off,ao=some ⟨b,off,none⟩ /\ ∀(j:Nat) p,ps[j]? = some p->w.cell? ⟨b,off+j*2,none⟩=some (.int .i64 p.1)/\w.cell? ⟨b,off+j*2+1,none⟩=some (.int .i64 p.2))
theorem RPorts.below {w w':World} {v:Value} {ps:List (Int × Int)} (h:RPorts w v ps) (hb:Below w.heap.size w w'):RPorts w' v ps:=by
 obtain⟨ao,cap,rfl,h2,h3,h4⟩:=h
 refine⟨ao,cap,rfl,h2,h3,fun hn=>?_⟩
 obtain⟨b,off,rfl,hc⟩:=h4 hn
 refine⟨b,off,rfl,fun j c hj=>?_⟩
 obtain⟨a1,a2⟩:=hc j c hj
 exact⟨(hb.cell (bLt w _ a1)).trans a1,(hb.cell (bLt w _ a2)).trans a2⟩
theorem RPorts.shape {w:World} {v:Value} {ps:List (Int × Int)} (h:RPorts w v ps):∃ao cap,v=.slice ao ps.length cap/\ps.length<=cap/\cap<=maxLen:=by
 obtain⟨ao,cap,h1,h2,h3,_⟩:=h
 exact⟨ao,cap,h1,h2,h3⟩
theorem RPorts.at {w:World} {ao:Option Addr} {n cap:Nat} {ps:List (Int × Int)} (h:RPorts w (.slice ao n cap) ps) {k:Nat} {p:Int × Int} (hk:ps[k]? = some p) :
 ∃b off,ao=some ⟨b,off,none⟩/\w.cell? ⟨b,off+k*2,none⟩=some (.int .i64 p.1)/\w.cell? ⟨b,off+k*2+1,none⟩=some (.int .i64 p.2):=by
 obtain⟨ao',cap',e,_,_,h5⟩:=h
 injection e with e1 e2 e3
 subst e1
 obtain⟨hkl,_⟩:=gSm hk
 obtain⟨b,off,hao,hc⟩:=h5 (by omega)
 obtain⟨a1,a2⟩:=hc k p hk
 exact⟨b,off,hao,a1,a2⟩
theorem rports_le {w:World} {ao:Option Addr} {n cap:Nat} {ps:List (Int × Int)} (h:RPorts w (.slice ao n cap) ps):n<=cap/\cap<=9223372036854775807:=by
 obtain⟨_,c,e,h1,h2⟩:=h.shape
 unfold maxLen at h2
 injection e with e1 e2 e3
 omega
def NodeAt (w:World) (b off:Nat) (n:SNode) (ai:Option Addr) (ci:Nat):Prop:=
 w.cell? ⟨b,off,none⟩=some (.int .i64 n.kind)/\w.cell? ⟨b,off+1,none⟩=some (.string ⟨n.file.toArray⟩)/\w.cell? ⟨b,off+2,none⟩=some (.int .i64 n.c.kind)/\w.cell? ⟨b,off+3,none⟩=some (.string ⟨n.c.word.toArray⟩) /\
 w.cell? ⟨b,off+4,none⟩=some (.int .i64 n.c.n)/\w.cell? ⟨b,off+5,none⟩=some (.int .i64 n.how)/\w.cell? ⟨b,off+6,none⟩=some (.int .i64 n.wide)/\w.cell? ⟨b,off+7,none⟩=some (.slice ai n.ins.length ci)
theorem NodeAt.below {w w':World} {b off:Nat} {n:SNode} {ai:Option Addr} {ci:Nat} (h:NodeAt w b off n ai ci) (hb:Below w.heap.size w w'):NodeAt w' b off n ai ci:=by
 obtain⟨a0,a1,a2,a3,a4,a5,a6,a7⟩:=h
 exact⟨(hb.cell (bLt w _ a0)).trans a0,(hb.cell (bLt w _ a1)).trans a1,(hb.cell (bLt w _ a2)).trans a2,(hb.cell (bLt w _ a3)).trans a3,
  (hb.cell (bLt w _ a4)).trans a4,(hb.cell (bLt w _ a5)).trans a5,(hb.cell (bLt w _ a6)).trans a6,(hb.cell (bLt w _ a7)).trans a7⟩
def RNodes (w:World) (v:Value) (ns:List SNode):Prop:=
 ∃ao cap,v=.slice ao ns.length cap/\ns.length<=cap/\cap<=maxLen /\
  (ns.length≠0 -> ∃b off,ao=some ⟨b,off,none⟩ /\ ∀(j:Nat) n,ns[j]? = some n -> ∃ai ci,NodeAt w b (off+j*8) n ai ci/\RPorts w (.slice ai n.ins.length ci) n.ins)
theorem RNodes.below {w w':World} {v:Value} {ns:List SNode} (h:RNodes w v ns) (hb:Below w.heap.size w w'):RNodes w' v ns:=by
 obtain⟨ao,cap,rfl,h2,h3,h4⟩:=h
 refine⟨ao,cap,rfl,h2,h3,fun hn=>?_⟩
 obtain⟨b,off,rfl,hc⟩:=h4 hn
 refine⟨b,off,rfl,fun j c hj=>?_⟩
 obtain⟨ai,ci,a1,a2⟩:=hc j c hj
 exact⟨ai,ci,a1.below hb,a2.below hb⟩
theorem RNodes.shape {w:World} {v:Value} {ns:List SNode} (h:RNodes w v ns):∃ao cap,v=.slice ao ns.length cap/\ns.length<=cap/\cap<=maxLen:=by
 obtain⟨ao,cap,h1,h2,h3,_⟩:=h
 exact⟨ao,cap,h1,h2,h3⟩
theorem RNodes.at {w:World} {ao:Option Addr} {n cap:Nat} {ns:List SNode} (h:RNodes w (.slice ao n cap) ns) {k:Nat} {x:SNode} (hk:ns[k]? = some x) :
 ∃b off ai ci,ao=some ⟨b,off,none⟩/\NodeAt w b (off+k*8) x ai ci/\RPorts w (.slice ai x.ins.length ci) x.ins:=by
 obtain⟨ao',cap',e,_,_,h5⟩:=h
 injection e with e1 e2 e3
 subst e1
 obtain⟨hkl,_⟩:=gSm hk
 obtain⟨b,off,hao,hc⟩:=h5 (by omega)
 obtain⟨ai,ci,a1,a2⟩:=hc k x hk
 exact⟨b,off,ai,ci,hao,a1,a2⟩
theorem rnodes_le {w:World} {ao:Option Addr} {n cap:Nat} {ns:List SNode} (h:RNodes w (.slice ao n cap) ns):n<=cap/\cap<=9223372036854775807:=by
 obtain⟨_,c,e,h1,h2⟩:=h.shape
 unfold maxLen at h2
 injection e with e1 e2 e3
 omega
theorem RNodes.take {w:World} {ao:Option Addr} {n cap:Nat} {ns:List SNode} (h:RNodes w (.slice ao n cap) ns) (k:Nat) (hk:k<=ns.length):RNodes w (.slice ao k cap) (ns.take k):=by
 obtain⟨ao',cap',e,h2,h3,h5⟩:=h
 injection e with e1 e2 e3
 subst e1
 subst e3
 have hl:(ns.take k).length=k:=by rw[List.length_take];omega
 refine⟨ao,cap,by rw[hl],by omega,h3,fun hn=>?_⟩
 obtain⟨b,off,hao,hc⟩:=h5 (by omega)
 refine⟨b,off,hao,fun j x hj=>hc j x ?_⟩
 obtain⟨hj1,_⟩:=gSm hj
 rwa [List.getElem?_take_of_lt (by omega)] at hj
def FitsN (n:SNode):Prop:=n.file.length<=9223372036854775807/\n.c.word.length<=9223372036854775807/\(∀p∈n.ins,(Lit.int .i64 p.1).wf=true/\(Lit.int .i64 p.2).wf=true)
structure SPipe where
 b:List UInt8
 room:Int
 closed:Bool
 shut:Bool
def zeroP:SPipe:=⟨[],0,false,false⟩
def plim (room:Int):Int:=if room=0 then 40000 else room
def pck (n:Nat) (room:Int) (shut:Bool):Int:=
 if room<0\/1000<room then 3 else if plim room<(n:Int) then 2 else if shut=true/\0<n then 4 else 0
def pchk (p:SPipe):Int:=pck p.b.length p.room p.shut
def pnew (room:Int):SPipe × Int:=if room<0\/1000<room then (zeroP,3) else (⟨[],room,false,false⟩,0)
def pfit (m n:Nat) (room:Int):Nat:=min m (plim room-(n:Int)).toNat
def pwrite (p:SPipe) (cs:List UInt8):SPipe × Nat × Int:=
 if pchk p≠0 then (zeroP,0,pchk p) else if p.closed=true then (zeroP,0,7) else if p.shut=true then (⟨[],p.room,p.closed,p.shut⟩,cs.length,0)
 else (⟨p.b++cs.take (pfit cs.length p.b.length p.room),p.room,p.closed,p.shut⟩,pfit cs.length p.b.length p.room,0)
def pread (p:SPipe) (most:Int):SPipe × List UInt8 × Int:=
 if pchk p≠0 then (zeroP,[],pchk p) else if most<0\/4000<most then (zeroP,[],3)
 else (⟨p.b.drop (min most.toNat p.b.length),p.room,p.closed,p.shut⟩,p.b.take (min most.toNat p.b.length),0)
def pshut (p:SPipe):SPipe × Int:=
 if pchk p≠0 then (zeroP,pchk p) else (⟨[],p.room,p.closed,true⟩,0)
theorem pck_ok {n:Nat} {room:Int} {sh:Bool} (h:pck n room sh=0):0<=room/\room<=1000/\(n:Int)<=plim room/\(sh=true->n=0):=by
 unfold pck at h
 split at h
 . cases h
 .
  split at h
  . cases h
  . split at h
    . cases h
    . refine⟨by omega,by omega,by omega,fun hs=>?_⟩
      simp[hs] at *
      omega
theorem plim_le {room:Int} (h:room<=1000):plim room<=40000:=by unfold plim;split <;> omega
theorem pfit_le {m n:Nat} {room:Int}:pfit m n room<=m:=Nat.min_le_left _ _
theorem pfit_sum {m n:Nat} {room:Int} (h1:room<=1000) (h2:(n:Int)<=plim room):n+pfit m n room<=40000/\((n+pfit m n room:Nat):Int)<=plim room:=by
 have:=plim_le h1
 have:pfit m n room<=(plim room-(n:Int)).toNat:=Nat.min_le_right _ _
 omega
theorem pfit_int {m n:Nat} {room:Int} (h2:(n:Int)<=plim room):(pfit m n room:Int)=if (m:Int)<=plim room-n then (m:Int) else plim room-n:=by
 unfold pfit
 split <;> omega
def pipeV (p:SPipe) (ab:Option Addr) (cap:Nat):Value:=.agg #[.slice ab p.b.length cap,.int .i64 p.room,.bool p.closed,.bool p.shut]
def PB (w w':World) (ar:Option Addr) (cr:Nat) (bs:List UInt8):Prop:=Reads w' (.slice ar bs.length cr) bs.length (bs.map U)/\(∀a,ar=some a->w.heap.size<=a.block)/\(ar=none->cr=0)
theorem PB.none (w w':World):PB w w' none 0 []:=⟨⟨rfl,Option.none,0,rfl,Nat.le_refl _,by simp[maxLen],fun h=>absurd rfl h⟩,(fun a h=>by cases h),fun _=>rfl⟩
structure SProc where
 got:List (List UInt8)
 pos:Int
 out:List (List UInt8)
 rd:Bool
 ov:Bool
structure SMach where
 ns:List SNode
 fs:List SFile
 pipes:List SPipe
 ps:List SProc
 sunk:List UInt8
def zeroM:SMach:=⟨[],[],[],[],[]⟩
def allIns (ns:List SNode):List (Int × Int):=(ns.map SNode.ins).flatten
def firstIn (ns:List SNode) (i:Nat):Nat:=(allIns (ns.take i)).length
def intoOf (ns:List SNode) (p:Int × Int):Nat:=(allIns ns).idxOf p
def badFirst (l:List Int):Int:=(l.find? (fun x=>x != 0)).getD 0
def anyLong (l:List (List UInt8)):Bool:=l.any (fun b=>decide (40000<b.length))
def procChk (n:SNode) (p:SProc):Int:=
 if p.got.length≠n.ins.length\/(p.out.length:Int)≠nouts n then 4
 else if p.pos<0\/(n.ins.length:Int)<p.pos\/(p.ov=true/\p.rd=false)\/(p.rd=false/\0<n.ins.length/\p.pos=n.ins.length) then 3
 else if anyLong p.got || anyLong p.out then 2
 else 0
def procsChk:List SNode->List SProc->Int
 | n::ns,p::ps=>if procChk n p≠0 then procChk n p else procsChk ns ps
 | _,_=>0
def mchk (M:SMach):Int:=
 if gchk M.ns≠0 then gchk M.ns
 else if fchk M.fs≠0 then fchk M.fs
 else if M.ps.length≠M.ns.length\/M.pipes.length≠(allIns M.ns).length then 4
 else if badFirst (M.pipes.map pchk)≠0 then badFirst (M.pipes.map pchk)
 else if procsChk M.ns M.ps≠0 then procsChk M.ns M.ps
 else if 40000<M.sunk.length then 2
 else 0
def SMach.setP (M:SMach) (i:Nat) (p:SProc):SMach:=⟨M.ns,M.fs,M.pipes,M.ps.set i p,M.sunk⟩
def SMach.setX (M:SMach) (q:Nat) (x:SPipe):SMach:=⟨M.ns,M.fs,M.pipes.set q x,M.ps,M.sunk⟩
def SMach.pipe (M:SMach) (q:Nat):SPipe:=(M.pipes[q]?).getD zeroP
def fullP (n:SNode) (fs:List SFile) (p:SProc):SProc:=⟨p.got.map (fun _=>[]),p.pos,List.zipWith (· ++ ·) p.out (nodeMade n fs p.got),true,p.ov⟩
def cutOf (b:List UInt8):Nat:=(b.reverse.dropWhile (fun c=>c != 10)).length
def passes (n:SNode):Bool:=(decide (n.kind=4) && decide (n.how=1)) || (decide (n.kind=3) && isEach n.c.kind)
def through (n:SNode) (whole:List UInt8):List UInt8:=if n.kind=4 then whole else ended (made n.c (lines whole))
def SProc.at (p:SProc):List UInt8:=(p.got[p.pos.toNat]?).getD []
def SProc.setGot (p:SProc) (b:List UInt8):SProc:=⟨p.got.set p.pos.toNat b,p.pos,p.out,p.rd,p.ov⟩
def SProc.setOut (p:SProc) (k:Nat) (b:List UInt8):SProc:=⟨p.got,p.pos,p.out.set k b,p.rd,p.ov⟩
def writeS (M:SMach) (i:Nat) (p:SProc):Nat->List (List UInt8)->SMach × Int
 | _,[]=>(M,8)
 | k,b::r=>
  if 0<(pwrite (M.pipe (intoOf M.ns (i,k))) b).2.1 then
   ((M.setX (intoOf M.ns (i,k)) (pwrite (M.pipe (intoOf M.ns (i,k))) b).1).setP i (p.setOut k (b.drop (pwrite (M.pipe (intoOf M.ns (i,k))) b).2.1)),0)
  else writeS M i p (k+1) r
def closeP (x:SPipe):SPipe:=⟨x.b,x.room,true,x.shut⟩
def closeTo (ns:List SNode) (i:Nat):Nat->List SPipe->List SPipe
 | 0,xs=>xs
 | k+1,xs=>(closeTo ns i k xs).modify (intoOf ns (i,k)) closeP
def endS (M:SMach) (i:Nat) (p:SProc):SMach:=⟨M.ns,M.fs,closeTo M.ns i p.out.length M.pipes,M.ps.set i ⟨p.got,p.pos,p.out,p.rd,true⟩,M.sunk⟩
def cameS (M:SMach) (i:Nat) (n:SNode) (q:Nat) (p:SProc):SMach:=
 if n.kind=5 then ⟨M.ns,M.fs,M.pipes,M.ps.set i (p.setGot []),M.sunk++p.at⟩
 else if passes n && p.at.contains 10 then M.setP i ((p.setOut 0 ((p.out[0]?).getD []++through n (p.at.take (cutOf p.at)))).setGot (p.at.drop (cutOf p.at)))
 else if n.kind=3/\n.c.kind=9/\n.c.n<=(p.at.count 10:Int) then (M.setX q ⟨[],(M.pipe q).room,(M.pipe q).closed,true⟩).setP i (fullP n M.fs p)
 else M.setP i p
def readS (M:SMach) (i:Nat) (n:SNode) (q:Nat) (p:SProc):SMach × Int:=
 if (M.pipe q).closed && (M.pipe q).b.isEmpty then
  (if p.pos+1=p.got.length then (M.setP i (fullP n M.fs ⟨p.got,p.pos+1,p.out,p.rd,p.ov⟩),0) else (M.setP i ⟨p.got,p.pos+1,p.out,p.rd,p.ov⟩,0))
 else if (M.pipe q).b.isEmpty then (M,8)
 else (cameS (M.setX q ⟨(M.pipe q).b.drop 8,(M.pipe q).room,(M.pipe q).closed,(M.pipe q).shut⟩) i n q (p.setGot (p.at++(M.pipe q).b.take 8)),0)
def stepP (M:SMach) (i:Nat) (n:SNode) (p:SProc):SMach × Int:=
 if p.ov then (M,7)
 else if p.out.any (fun b=>!b.isEmpty) then writeS M i p 0 p.out
 else if p.rd then (endS M i p,0)
 else if p.got.isEmpty then (M.setP i (fullP n M.fs p),0)
 else readS M i n (firstIn M.ns i+p.pos.toNat) p
def stepN (M:SMach) (i:Nat):SMach × Int:=
 match M.ns[i]?,M.ps[i]? with
 | some n,some p=>stepP M i n p
 | _,_=>(M,5)
def stepS (M:SMach) (i:Int):SMach × Int:=if i<0\/(M.ps.length:Int)<=i then (M,5) else stepN M i.toNat
def overS (M:SMach):Bool:=M.ps.all (fun p=>p.ov)
def roundTo (M:SMach):Nat->SMach × Bool
 | 0=>(M,false)
 | k+1=>((stepN (roundTo M k).1 k).1,(roundTo M k).2 || decide ((stepN (roundTo M k).1 k).2=0))
def roundS (M:SMach):SMach × Bool:=roundTo M M.ps.length
def Fins:Nat->SMach->SMach × Int->Prop
 | 0,M,r=>(overS M=true/\r=(M,0))\/(overS M=false/\(roundS M).2=false/\r=(zeroM,8))
 | k+1,M,r=>overS M=false/\(roundS M).2=true/\Fins k (roundS M).1 r
def picksS (M:SMach):List Int->SMach × List Int
 | []=>(M,[])
 | i::r=>((picksS (stepS M i).1 r).1,(stepS M i).2::(picksS (stepS M i).1 r).2)
def roomOf (ns:List SNode) (room:Int) (p:Int × Int):Int:=if ((ns[p.1.toNat]?).map SNode.kind)=some 2 then 0 else room
def freshP (n:SNode):SProc:=⟨List.replicate n.ins.length [],0,List.replicate (nouts n).toNat [],false,false⟩
def freshM (ns:List SNode) (fs:List SFile) (room:Int):SMach:=⟨ns,fs,(allIns ns).map (fun p=>⟨[],roomOf ns room p,false,false⟩),ns.map freshP,[]⟩
def newS (ns:List SNode) (fs:List SFile) (room:Int):SMach × Int:=
 if gchk ns≠0 then (zeroM,gchk ns) else if fchk fs≠0 then (zeroM,fchk fs) else if room<1\/1000<room then (zeroM,3) else (freshM ns fs room,0)
end Go.Gs
namespace Go.Proofs.YtllgglolcgdehaaGreatDoor
open Go.RowKit Go.Gs
set_option linter.unusedVariables false
theorem boxrP {w:World} {o:Obj}:Below w.heap.size w (w.alloc o):=(Below.refl _ w).alloc (Nat.le_refl _) o
theorem boxr2P {w:World} {o p:Obj}:Below w.heap.size w ((w.alloc o).alloc p):=(boxrP (w:=w) (o:=o)).alloc (by simp) p
theorem reads_formP {w:World} {v:Value} {n:Nat} {xs:List Value} (h:Reads w v n xs):∃ao cap,v=.slice ao n cap/\n<=cap/\cap<=maxLen:=by
 obtain⟨_,ao,cap,rfl,h2,h3,_⟩:=h
 exact⟨ao,cap,rfl,h2,h3⟩
theorem reads_leP {w:World} {ao:Option Addr} {n cap:Nat} {xs:List Value} (h:Reads w (.slice ao n cap) n xs):n<=9223372036854775807/\n<=cap/\cap<=9223372036854775807:=by
 obtain⟨_,c,e,h1,h2⟩:=reads_formP h
 injection e with e1 e2 e3
 subst e3
 unfold maxLen at h2
 omega
theorem reads_byteP {w:World} {ao:Option Addr} {n cap:Nat} {bs:List UInt8} (h:Reads w (.slice ao n cap) n (bs.map U)) {k:Nat} {c:UInt8} (hk:bs[k]? = some c) :
 ∃b off,ao=some ⟨b,off,none⟩/\w.cell? ⟨b,off+k,none⟩=some (.int .u8 (c.toNat:Int)):=by
 obtain⟨h1,ao',cap',e,_,_,h5⟩:=h
 injection e with e1 e2 e3
 subst e1
 obtain⟨hkl,_⟩:=gSm hk
 rw[List.length_map] at h1
 obtain⟨b,off,hao,hc⟩:=h5 (by omega)
 exact⟨b,off,hao,hc k (U c) (by rw[List.getElem?_map,hk];rfl)⟩
theorem addP {b off j:Nat}:(⟨b,off,none⟩:Addr).add j=⟨b,off+j,none⟩:=by unfold Addr.add;split <;> simp_all
theorem infoU8P:(Tryz.prog.info? 5).map (fun i=>(i.zero,i.size,i.bytes))=some (some (.int .u8 0),1,1):=by kernel_rfl
theorem U_oneP {bs:List UInt8}:∀u∈bs.map U,u.oneCell'=true:=by
 intro u hu
 obtain⟨x,_,rfl⟩:=List.mem_map.1 hu
 rfl
theorem box4P {w w':World} {a b c d:Value} {t:TypeId} (h:Below (w.alloc (.cells #[a,b,c,d] t)).heap.size (w.alloc (.cells #[a,b,c,d] t)) w') :
 w'.heap[w.heap.size]? = some (.cells #[a,b,c,d] t (0,0)):=(h.block _ (by simp)).trans (heap_alloc_new w _)
theorem cells4P {w:World} {k:Nat} {a b c d:Value} {t:TypeId} (h:w.heap[k]? = some (.cells #[a,b,c,d] t (0,0))) :
 w.cell? ⟨k,0,none⟩=some a/\w.cell? ⟨k,1,none⟩=some b/\w.cell? ⟨k,2,none⟩=some c/\w.cell? ⟨k,3,none⟩=some d:=by
 refine⟨?_,?_,?_,?_⟩
 all_goals
  rw[cell_of_row _ _ _ _ _ _ h]
  rfl
theorem frz4P {w:World} {k:Nat} {a b c d:Value} {t:TypeId} (h:w.heap[k]? = some (.cells #[a,b,c,d] t (0,0))) :
 w.frozen? ⟨k,0,none⟩=false/\w.frozen? ⟨k,1,none⟩=false/\w.frozen? ⟨k,2,none⟩=false/\w.frozen? ⟨k,3,none⟩=false:=
 ⟨frozen_of_row _ _ _ _ _ h,frozen_of_row _ _ _ _ _ h,frozen_of_row _ _ _ _ _ h,frozen_of_row _ _ _ _ _ h⟩
theorem below_set4P {B:Nat} {w w1:World} (h:Below B w w1) {k:Nat} (hk:B<=k) (a b c d:Value):Below B w ((((w1.setCell ⟨k,0,none⟩ a).setCell ⟨k,1,none⟩ b).setCell ⟨k,2,none⟩ c).setCell ⟨k,3,none⟩ d):=
 (((h.setCell hk a).setCell hk b).setCell hk c).setCell hk d
theorem readsSetP {w:World} {ao:Option Addr} {n cap:Nat} {xs:List Value} (h:Reads w (.slice ao n cap) n xs) {k off:Nat} (hk:∀a,ao=some a->a.block≠k) (v:Value):Reads (w.setCell ⟨k,off,none⟩ v) (.slice ao n cap) n xs:=by
 obtain⟨h1,ao',cap',e,h2,h3,h4⟩:=h
 injection e with e1 e2 e3
 subst e1 e3
 refine⟨h1,_,_,rfl,h2,h3,fun hn=>?_⟩
 obtain⟨b,o,rfl,hc⟩:=h4 hn
 refine⟨b,o,rfl,fun j u hu=>?_⟩
 have hne:b≠k:=hk _ rfl
 rw[World.cell?_setCell_other _ _ _ _ (by intro e;injection e with e1;omega)]
 exact hc j u hu
theorem PB.setP {w w':World} {ar:Option Addr} {cr:Nat} {bs:List UInt8} (h:PB w w' ar cr bs) {k off:Nat} (hk:k<w.heap.size) (v:Value):PB w (w'.setCell ⟨k,off,none⟩ v) ar cr bs:=
 ⟨readsSetP h.1 (fun a ha=>by have:=h.2.1 a ha;omega) v,h.2⟩
theorem PB.fromP {w w1 w':World} {ar:Option Addr} {cr:Nat} {bs:List UInt8} (h:PB w1 w' ar cr bs) (hs:w.heap.size<=w1.heap.size):PB w w' ar cr bs:=⟨h.1,fun a ha=>Nat.le_trans hs (h.2.1 a ha),h.2.2⟩
theorem results_cell_tmp2P {fn:Func} {p u x:Tmp} {ty:TypeId} (h:fn.results=#[.cell p ty,.tmp u,.tmp x]) (tmps:Array Value) (P:Program) (w:World) :
 (results fn tmps).run P w =
  ((asAddr (tmps.getD p undef)).run P w).andThen fun a w₁=>((loadVar ty a).run P w₁).andThen fun v w₂=>.ok (.tuple #[v,tmps.getD u undef,tmps.getD x undef]) w₂:=by
 simp only[results,h]
 simp[Sem.run_bind,Result.andThen]
theorem box44P {w w':World} {a b c d a' b' c' d':Value} {t t':TypeId} (h:Below ((w.alloc (.cells #[a,b,c,d] t)).alloc (.cells #[a',b',c',d'] t')).heap.size ((w.alloc (.cells #[a,b,c,d] t)).alloc (.cells #[a',b',c',d'] t')) w') :
 w'.heap[w.heap.size]? = some (.cells #[a,b,c,d] t (0,0))/\w'.heap[w.heap.size+1]? = some (.cells #[a',b',c',d'] t' (0,0)):=by
 refine⟨(h.block _ (by simp;omega)).trans ?_,(h.block _ (by simp)).trans ?_⟩
 . rw[boxrP.block _ (by simp)]
   exact heap_alloc_new w _
 . have:=heap_alloc_new (w.alloc (.cells #[a,b,c,d] t)) (.cells #[a',b',c',d'] t')
   simpa using this
theorem bcloneP (ab:Option Addr) (cb:Nat) (bs:List UInt8) (w:World) (hr:Reads w (.slice ab bs.length cb) bs.length (bs.map U)) (hl:bs.length<=100000) :
 Calls Tryz.prog 125 #[.slice ab bs.length cb] w fun e w'=>∃ar cr,e=.returned (.slice ar bs.length cr)/\PB w w' ar cr bs/\Below w.heap.size w w':=by
 obtain⟨i0,hi,hi0,hi1,hi2⟩:=info_parts infoU8P
 have hq:∀(w:World) (a:Option Addr) (n c n' c':Nat),(binOp .eql 28 (.slice a n c) (.slice none n' c')).run Tryz.prog w=.ok (.bool a.isNone) w:=fun w a n c n' c'=>Lib.run_eql_slice_nil w _ _ a n c n' c' Tryz.underlying28
 obtain⟨h1,ao,cap,e,h2,h3,h4⟩:=hr
 injection e with e1 e2 e3
 subst e1 e3
 cases ab with
 | none=>
  have h0:bs=[]:=by
   cases bs with
   | nil=>rfl
   | cons x r=>obtain⟨b,off,e,_⟩:=h4 (by simp);cases e
  subst h0
  clear h4 h1
  go_enter Tryz.func125,Tryz.ntmps125
  go_wp2_with fail
  go_ret
  exact⟨none,0,rfl,PB.none _ _,Below.refl _ _⟩
 | some a=>
  have hcell:∀j u,(bs.map U)[j]? = some u->w.cell? (a.add j)=some u:=by
   intro j u hj
   have:0<bs.length:=by
    have:=(gSm hj).1
    simp at this
    omega
   obtain⟨b,off,e,hc⟩:=h4 (by omega)
   injection e with e
   subst e
   rw[addP]
   exact hc j u hj
  have HC:Hid _:=hcell
  obtain⟨xs,hxs⟩:∃xs,xs=bs.map U:=⟨_,rfl⟩
  have HX:Hid (xs=bs.map U):=hxs
  obtain⟨N,hN⟩:∃N,N=bs.length:=⟨_,rfl⟩
  have HN:Hid (N=bs.length):=hN
  have HXL:Hid (xs.length=N):=(show _=_ by rw[hxs,hN,List.length_map])
  rw[<- hxs] at HC
  unfold PB
  rw[<- hxs,<- hN]
  rw[<- hN] at hl
  clear h4 h1 hcell hxs hN h2 h3
  go_enter Tryz.func125,Tryz.ntmps125
  go_wp2_with (at_builtin;refine wpList_append_own _ rfl _ _ 28 rfl w.heap.size 5 i0 (.int .u8 0) 1 1 Tryz.underlying28 hi hi0 hi1 hi2 rfl (by decide) _ _ _ rfl (World.ownsRow_made w #[] 0 (Nat.le_refl _) (Nat.zero_le _) rfl) a N cb xs rfl ?qc1 ?qc2 ?qc3 ?qc4 ?qc5 ?qc6 ?_)
  case qc1=>first | (rw[HXL.out];done) | (rw[HXL.out,Nat.mul_one])
  case qc2=>
   intro j u hj
   have h:=HC.out j u hj
   rw[boxrP.cell (bLt w _ h)]
   exact h
  case qc3=>rw[HX.out];exact U_oneP
  case qc4=>unfold maxLen;omega
  case qc5=>omega
  all_goals try (case qc6=>simp)
  .
   intro v' w1 hown hg hnil
   have HB:Hid (Below w.heap.size w w1):=boxrP.grown hg (by simp) (fun k hk=>by injection hk with hk;subst hk;exact Nat.le_refl _)
   have hown':w1.ownsRow w.heap.size 5 1 v' N xs:=by simpa using hown
   have HO:Hid (w1.ownsRow w.heap.size 5 1 v' N xs):=hown'
   have HR:Hid (∃ar cr,v'=.slice ar N cr/\(∀a,ar=some a->w.heap.size<=a.block)/\(ar=none->cr=0)):=(show ∃ar cr,v'=.slice ar N cr/\(∀a,ar=some a->w.heap.size<=a.block)/\(ar=none->cr=0) by
    rcases hown'.2 with ⟨rfl,h0⟩ | ⟨g,cap,cur,rfl,hb,_⟩
    . exact⟨none,0,by rw[h0],(fun a h=>by cases h),fun _=>rfl⟩
    . exact⟨_,cap,rfl,(fun a h=>by injection h with h;subst h;exact hb),fun h=>by cases h⟩)
   clear hown hg hnil hown'
   go_wp2
   go_ret
   obtain⟨ar,cr,hv,hn⟩:=HR.out
   refine⟨ar,cr,by rw[<- hv];rfl,⟨?_,hn⟩,HB.out⟩
   rw[<- hv]
   exact Reads.of_owns HO.out
end Go.Proofs.YtllgglolcgdehaaGreatDoor
namespace Go.Gs
open Go.RowKit
set_option linter.unusedVariables false
theorem flat_lines_len (bss:List (List UInt8)):(ended (bss.map lines).flatten).length<=bss.flatten.length+bss.length:=by
 induction bss with
 | nil=>simp[ended]
 | cons b bss ih=>
  have:=ended_lines b
  simp only[List.map_cons,List.flatten_cons,ended_append,List.length_append,List.length_cons]
  omega
theorem flat_lines_count (bss:List (List UInt8)):(bss.map lines).flatten.length<=bss.flatten.length:=by
 induction bss with
 | nil=>simp
 | cons b bss ih=>
  have:=lines_length b
  simp only[List.map_cons,List.flatten_cons,List.length_append]
  omega
theorem jchk_chk {how:Int} {c:Cmd} (h:jchk how c=0):how=4->chk c=0:=by
 intro e
 unfold jchk at h
 rw[if_neg (by omega),if_pos e] at h
 exact h
end Go.Gs
