/- Plain facts on bytes and lines, and on slices that can be read, and more. -/
import Derived.Test.YtmejdflmcikkdaaGreatDoorVAb
import Derived.WalkKit
import Derived.Test.YtmejdflmcikkdaaGreatDoorProg
import Derived.WalkLawsBesides
import Derived.WalkSpells
import Derived.Deep.Draws
import Derived.Deep.RegionWith
import Derived.Deep.DeepCutAuto
import Derived.Deep.Cut
import Derived.Deep.QuietTactic
import Derived.Deep.RegionLaw
import Derived.BigQuiet
import Derived.ChangeAgain
import Derived.Outline
import Derived.Lib.SliceRun
import Derived.Lib.QuietBelow
import Derived.Maps.AppendAt
import Derived.Laws.IdiomStrings
import Derived.Laws.Strings3
import Derived.Lib.SlBytesConst
import Derived.Lib.Split
import Derived.Lib.SplitLaws
import Derived.Lib.ItoaNum
import Derived.Lib.IndexMore
import Derived.Lib.SlicesCompact
import Derived.Lib.AtoiAllCases
import Derived.Lib.Join
import Derived.Laws.AppendOwn
import Derived.Laws.OwnMore
import Derived.Laws.CopyRow
import Derived.Deep.Slices
import Derived.Maps.Own
import Derived.Maps.OwnOps
import Derived.Maps.Views
import Derived.Maps.StringElems
import Derived.ProofKit
import Derived.OpenShut
import Derived.SliceStrings
import Derived.ChangeSame
set_option linter.all false
set_option maxRecDepth 100000
set_option maxHeartbeats 64000000
namespace Go.Gs
open Go.RowKit
variable {α:Type _}{i base n m:Nat}{v old:Value}{w:World}{e:TypeId}{xs:List Value}{a:Addr}{room:Int}{sh:Bool}
def U(c:UInt8):Value:=.int .u8 (c.toNat:Int)
def S(l:qU):Value:=.string ⟨l.toArray⟩
def A2(cur:qU):qU->qL
 | []=>if cur=[] then [] else [cur]
 | c::r=>if c=10 then cur::A2 [] r else A2 (cur++[c]) r
def lines(b:qU):qL:=A2 [] b
def ended(l:qL):qU:=(l.map (fun s=>s++[10])).flatten
theorem F8(s:qU)(l:qL):ended (s::l)=s++[10]++ended l:=by simp[ended]
theorem R9(a b:qL):ended (a++b)=ended a++ended b:=by simp[ended]
theorem aG9(r:qU):∀cur,(A2 cur r).length<=r.length+(if cur=[] then 0 else 1):=by
 induction r with
 | nil=>intro cur;unfold A2;split <;> simp_all
 | cons c r ih=>
  intro cur;unfold A2;split
  . have:=ih [];simp only[ql,if_true]at *;split <;> omega
  . have:=ih (cur++[c]);simp only[ql,List.append_eq_nil_iff,List.cons_ne_nil,and_false,if_false]at *;split <;> omega
theorem E6(b:qU):(lines b).length<=b.length:=by have:=aG9 b [];simpa[lines]using this
theorem bt0(l:qL)(h:ended l≠[]):(ended l).getLast h=10:=by
 induction l with
 | nil=>exact absurd rfl h
 | cons s l ih=>
  simp only[F8]at h ⊢;by_cases e:ended l=[]
  . simp[e]
  . rw[List.getLast_append_of_ne_nil _ e];exact ih e
theorem aI3(r:qU):∀cur,(ended (A2 cur r)).length<=cur.length+r.length+1:=by
 induction r with
 | nil=>intro cur;unfold A2;split <;> simp_all [ended]
 | cons c r ih=>
  intro cur;unfold A2;split
  . have:=ih [];simp only[F8,qI,ql,xI]at *;omega
  . have:=ih (cur++[c]);simp only[qI,ql,xI]at *;omega
theorem E8(b:qU):(ended (lines b)).length<=b.length+1:=by have:=aI3 b [];simpa[lines]using this
theorem Y6(l:qL)(i j:Nat):(ended ((l.take j).drop i)).length<=(ended l).length:=by
 have h1:(ended (l.take j)).length<=(ended l).length:=by
  conv=>rhs;rw[<- xU j l,R9]
  simp
 have h2:(ended ((l.take j).drop i)).length<=(ended (l.take j)).length:=by
  conv=>rhs;rw[<- xU i (l.take j),R9]
  simp
 omega
theorem ab4(l:qL):l.length<=(ended l).length:=by
 induction l with
 | nil=>simp
 | cons s l ih=>rw[F8];simp;omega
theorem _root_.gSm{l:List α}{a:α}(h:l[i]?=some a):∃h:i<l.length,l[i]=a:=List.getElem?_eq_some_iff.1 h
theorem _root_.bLt(w:World)(a:Addr)(h:w.cell? a=some v):a.block<w.heap.size:=World.block_lt_of_cell? w a h
theorem _root_.gEl{l:List α}(h:i<l.length):l[i]?=some l[i]:=List.getElem?_eq_getElem h
theorem _root_.mGt{l:List α}{a:α}(h:l[i]?=some a):a∈l:=zc h
theorem _root_.aSm{l:Array α}{a:α}(h:l[i]?=some a):∃h:i<l.size,l[i]=a:=Array.getElem?_eq_some_iff.1 h
def Reads(w:World)(v:Value)(n:Nat)(xs:List Value):Prop:=
 xs.length=n/\∃ao cap,v=.slice ao n cap/\n<=cap/\cap<=maxLen /\
  (n≠0->∃b off,ao=some ⟨b,off,none⟩/\∀j u,xs[j]?=some u->w.cell? ⟨b,off+j,none⟩=some u)
theorem Reads.of_owns(h:w.ownsRow base e 1 v n xs):Reads w v n xs:=by
 have hl:xs.length=n:=by simpa using h.1
 refine⟨hl,?_⟩;rcases h.2 with⟨rfl,rfl⟩|⟨g,cap,cur,rfl,hb,hg,h1,h2,h3,h4⟩
 . exact⟨none,0,rfl,qA _,by simp,fun h=>absurd rfl h⟩
 . refine⟨_,cap,rfl,h1,h2,fun _=>⟨g,0,rfl,fun j u hu=>?_⟩⟩;have:=h.cells (g:=g) rfl j u hu;have Ce:(⟨g,0,none⟩:Addr).add j=⟨g,0+j,none⟩:=by unfold Addr.add;split <;> simp_all
   rwa [Ce]at this
theorem Reads.below{w':World}(h:Reads w v n xs)(hb:Bq w w'):Reads w' v n xs:=by obtain⟨h1,ao,cap,rfl,h2,h3,h4⟩:=h;refine⟨h1,ao,cap,rfl,h2,h3,fun hn=>?_⟩;obtain⟨b,off,rfl,hc⟩:=h4 hn;exact⟨b,off,rfl,fun j u hu=>(hb.cell (World.block_lt_of_cell? w _ (hc j u hu))).trans (hc j u hu)⟩
theorem Reads.setCell(h:Reads w v n xs)(ha:w.cell? a=some old)(x:Value)(hne:old∉xs):Reads (w.setCell a x) v n xs:=by
 obtain⟨h1,ao,cap,rfl,h2,h3,h4⟩:=h;refine⟨h1,ao,cap,rfl,h2,h3,fun hn=>?_⟩;obtain⟨b,off,rfl,hc⟩:=h4 hn;refine⟨b,off,rfl,fun j u hu=>?_⟩;have hcu:=hc j u hu;have hd:a≠⟨b,off+j,none⟩:=by
  rintro rfl;rw[hcu]at ha
  cases ha;exact hne (zc hu)
 rw[<- hcu];exact World.cell?_setCell_other _ _ _ _ hd
structure SPipe where
 b:qU
 room:Int
 closed:Bool
 shut:Bool
def Y3:SPipe:=⟨[],0,false,false⟩
def plim(room:Int):Int:=if room=0 then 40000 else room
def pck(n:Nat)(room:Int)(shut:Bool):Int:=
 if room<0\/1000<room then 3 else if plim room<(n:Int) then 2 else if shut=true/\0<n then 4 else 0
def pchk(p:SPipe):Int:=pck p.b.length p.room p.shut
def pnew(room:Int):SPipe × Int:=if room<0\/1000<room then (Y3,3) else (⟨[],room,false,false⟩,0)
def pfit(m n:Nat)(room:Int):Nat:=min m (plim room-(n:Int)).toNat
def pwrite(p:SPipe)(cs:qU):SPipe × Nat × Int:=
 if pchk p≠0 then (Y3,0,pchk p) else if p.closed=true then (Y3,0,7) else if p.shut=true then (⟨[],p.room,p.closed,p.shut⟩,cs.length,0)
 else (⟨p.b++cs.take (pfit cs.length p.b.length p.room),p.room,p.closed,p.shut⟩,pfit cs.length p.b.length p.room,0)
def pread(p:SPipe)(most:Int):SPipe × qU × Int:=
 if pchk p≠0 then (Y3,[],pchk p) else if most<0\/4000<most then (Y3,[],3)
 else (⟨p.b.drop (min most.toNat p.b.length),p.room,p.closed,p.shut⟩,p.b.take (min most.toNat p.b.length),0)
def pshut(p:SPipe):SPipe × Int:=
 if pchk p≠0 then (Y3,pchk p) else (⟨[],p.room,p.closed,true⟩,0)
theorem aI4(h:pck n room sh=0):0<=room/\room<=1000/\(n:Int)<=plim room/\(sh=true->n=0):=by
 unfold pck at h;split at h
 . cases h
 .
  split at h
  . cases h
  . split at h
    . cases h
    . refine⟨qO,qO,qO,fun hs=>?_⟩;simp[hs]at *;omega
theorem ae1(h:room<=1000):plim room<=40000:=by unfold plim;split <;> omega
theorem ba2:pfit m n room<=m:=Nat.min_le_left _ _
theorem bQ9(h1:room<=1000)(h2:(n:Int)<=plim room):n+pfit m n room<=40000/\((n+pfit m n room:Nat):Int)<=plim room:=by have:=ae1 h1;have:pfit m n room<=(plim room-(n:Int)).toNat:=Nat.min_le_right _ _;omega
theorem bi5(h2:(n:Int)<=plim room):(pfit m n room:Int)=if (m:Int)<=plim room-n then (m:Int) else plim room-n:=by unfold pfit;split <;> omega
def M8(p:SPipe)(ab:Option Addr)(cap:Nat):Value:=.agg #[.slice ab p.b.length cap,.int .i64 p.room,.bool p.closed,.bool p.shut]
def PB(w w':World)(ar:Option Addr)(cr:Nat)(bs:qU):Prop:=Reads w' (.slice ar bs.length cr) bs.length (bs.map U)/\(∀a,ar=some a->w.heap.size<=a.block)/\(ar=none->cr=0)
theorem PB.none(w w':World):PB w w' none 0 []:=⟨⟨rfl,Option.none,0,rfl,qA _,by simp[maxLen],fun h=>absurd rfl h⟩,(fun a h=>by cases h),fun _=>rfl⟩
end Go.Gs
namespace Go.Proofs.YtmejdflmcikkdaaGreatDoor
open Go.RowKit Go.Gs Tryz
variable {w w' w1:World}{o:Obj}{v a b c d z:Value}{n cap k off B cr base size bytes g:Nat}{xs:List Value}{ao ar:Option Addr}{α:Type}{bs l:qU}{t ty e:TypeId}{fn:Func}{P:Program}{i:TypeInfo}{ops:Array Oper}{rest:List Oper}{Q:Exit->Act->World->Prop}{D:qL}{sx:ByteArray}
theorem P6:Bq w (w.alloc o):=(Below.refl _ w).alloc (qA _) o
theorem Q2{p:Obj}:Bq w ((w.alloc o).alloc p):=(P6 (w:=w) (o:=o)).alloc (by simp) p
theorem bi6(h:Reads w v n xs):∃ao cap,v=.slice ao n cap/\n<=cap/\cap<=maxLen:=by obtain⟨_,ao,cap,rfl,h2,h3,_⟩:=h;exact⟨ao,cap,rfl,h2,h3⟩
theorem t8(h:Reads w (.slice ao n cap) n xs):n<=9223372036854775807/\n<=cap/\cap<=9223372036854775807:=by obtain⟨_,c,e,h1,h2⟩:=bi6 h;injection e with e1 e2 e3;subst e3;unfold maxLen at h2;omega
theorem ce2{a b:List α}{x y:α}(ha:a[k]?=some x)(hb:b[k]?=some y)(h:x≠y):a≠b:=by intro e;rw[e,hb]at ha;injection ha with ha;exact h ha.symm
theorem bR0{a b:List α}{x:α}(h:a.take k=b.take k)(ha:a[k]?=some x)(hb:b[k]?=some x):a.take (k+1)=b.take (k+1):=by rw[qZ,qZ,h,ha,hb]
theorem aa5(h:Reads w (.slice ao n cap) n (bs.map U)){c:UInt8}(hk:bs[k]?=some c):
 ∃b off,ao=some ⟨b,off,none⟩/\w.cell? ⟨b,off+k,none⟩=some (.int .u8 (c.toNat:Int)):=by obtain⟨h1,ao',cap',e,_,_,h5⟩:=h;injection e with e1 e2 e3;subst e1;obtain⟨hkl,_⟩:=gSm hk;rw[qS]at h1;obtain⟨b,off,hao,hc⟩:=h5 qO;exact⟨b,off,hao,hc k (U c) (by rw[qa,hk];rfl)⟩
theorem addP{b j:Nat}:(⟨b,off,none⟩:Addr).add j=⟨b,off+j,none⟩:=by unfold Addr.add;split <;> simp_all
theorem ba3:(prog.info? 5).map (fun i=>(i.zero,i.size,i.bytes))=some (some (.int .u8 0),1,1):=qQ
theorem aI5:∀u∈bs.map U,u.oneCell'=true:=by intro u hu;obtain⟨x,_,rfl⟩:=xA.1 hu;rfl
theorem cg3(h:Below (w.alloc (.cells #[a,b,c,d] t)).heap.size (w.alloc (.cells #[a,b,c,d] t)) w'):
 w'.heap[w.heap.size]?=some (.cells #[a,b,c,d] t (0,0)):=(h.block _ (by simp)).trans (qJ w _)
theorem C9(h:w.heap[k]?=some (.cells #[a,b,c,d] t (0,0))):
 w.cell? ⟨k,0,none⟩=some a/\w.cell? ⟨k,1,none⟩=some b/\w.cell? ⟨k,2,none⟩=some c/\w.cell? ⟨k,3,none⟩=some d:=by
 refine⟨?_,?_,?_,?_⟩
 all_goals
  rw[qY _ _ _ _ _ _ h];rfl
theorem ab5(h:w.heap[k]?=some (.cells #[a,b,c,d] t (0,0))):
 w.frozen? ⟨k,0,none⟩=false/\w.frozen? ⟨k,1,none⟩=false/\w.frozen? ⟨k,2,none⟩=false/\w.frozen? ⟨k,3,none⟩=false:=
 ⟨xW _ _ _ _ _ h,xW _ _ _ _ _ h,xW _ _ _ _ _ h,xW _ _ _ _ _ h⟩
theorem aD8(h:Below B w w1)(hk:B<=k)(a b c d:Value):Below B w ((((w1.setCell ⟨k,0,none⟩ a).setCell ⟨k,1,none⟩ b).setCell ⟨k,2,none⟩ c).setCell ⟨k,3,none⟩ d):=
 (((h.setCell hk a).setCell hk b).setCell hk c).setCell hk d
theorem aU1(h:Reads w (.slice ao n cap) n xs)(hk:∀a,ao=some a->a.block≠k)(v:Value):Reads (w.setCell ⟨k,off,none⟩ v) (.slice ao n cap) n xs:=by obtain⟨h1,ao',cap',e,h2,h3,h4⟩:=h;injection e with e1 e2 e3;subst e1 e3;refine⟨h1,_,_,rfl,h2,h3,fun hn=>?_⟩;obtain⟨b,o,rfl,hc⟩:=h4 hn;refine⟨b,o,rfl,fun j u hu=>?_⟩;have hne:b≠k:=hk _ rfl;rw[World.cell?_setCell_other _ _ _ _ (by intro e;injection e with e1;omega)];exact hc j u hu
theorem PB.setP(h:PB w w' ar cr bs)(hk:k<w.heap.size)(v:Value):PB w (w'.setCell ⟨k,off,none⟩ v) ar cr bs:=
 ⟨aU1 h.1 (fun a ha=>by have:=h.2.1 a ha;omega) v,h.2⟩
theorem PB.fromP(h:PB w1 w' ar cr bs)(hs:w.heap.size<=w1.heap.size):PB w w' ar cr bs:=⟨h.1,fun a ha=>qc hs (h.2.1 a ha),h.2.2⟩
theorem j9{p u x:Tmp}(h:fn.results=#[.cell p ty,.tmp u,.tmp x])(tmps:Array Value)(P:Program)(w:World):
 (results fn tmps).run P w =
  ((asAddr (tmps.getD p undef)).run P w).andThen fun a w₁=>((loadVar ty a).run P w₁).andThen fun v w₂=>.ok (.tuple #[v,tmps.getD u undef,tmps.getD x undef]) w₂:=by simp only[results,h];simp[Sem.run_bind,Result.andThen]
theorem aB4{a' b' c' d':Value}{t':TypeId}(h:Below ((w.alloc (.cells #[a,b,c,d] t)).alloc (.cells #[a',b',c',d'] t')).heap.size ((w.alloc (.cells #[a,b,c,d] t)).alloc (.cells #[a',b',c',d'] t')) w'):
 w'.heap[w.heap.size]?=some (.cells #[a,b,c,d] t (0,0))/\w'.heap[w.heap.size+1]?=some (.cells #[a',b',c',d'] t' (0,0)):=by
 refine⟨(h.block _ (by simp;omega)).trans ?_,(h.block _ (by simp)).trans ?_⟩
 . rw[P6.block _ (by simp)];exact qJ w _
 . have:=qJ (w.alloc (.cells #[a,b,c,d] t)) (.cells #[a',b',c',d'] t');simpa using this
theorem bR1(au av:Option Addr)(cu cv:Nat)(a b:qU)(w:World)(ha:Reads w (.slice au a.length cu) a.length (a.map U))(hb:Reads w (.slice av b.length cv) b.length (b.map U)):
 Calls prog 38 #[.slice au a.length cu,.slice av b.length cv] w fun e w'=>e=.returned (.bool (decide (a=b)))/\Bq w w':=by
 have m2:=(t8 ha).1;have m4:=(t8 hb).1;have HA:=qH ha;have HB:=qH hb;obtain⟨NA,hNA⟩:=qE a.length;obtain⟨NB,hNB⟩:=qE b.length;have HNA:=qH hNA;have HNB:=qH hNB;have hA1:NA<=9223372036854775807:=qO;have hB1:NB<=9223372036854775807:=qO;rw[<- hNA,<- hNB];rw[<- hNA]at HA;rw[<- hNB]at HB;clear ha hb m2 m4 hNA hNB;by_cases hne:NA=NB
 .
  subst hne;go_enter func38,ntmps38;go_wp2_with fail;go_loopw [13] (fun i wr=>∃k:Nat,k<=NA/\i=.int .i64 k/\Hid (Bq w wr)/\Hid (a.take k=b.take k)) (fun i _=>NA-(intOf i).toNat)
  case atStart=>exact⟨0,qM _,rfl,Below.refl _ _,(show _=_ by simp)⟩
  case round=>
   obtain⟨k,hk,rfl,Aa,An⟩:=hrel;by_cases hlt:k<NA
   .
    obtain⟨x,hx⟩:∃x,a[k]?=some x:=⟨_,gEl (by have:=HNA.o;omega)⟩;obtain⟨y,hy⟩:∃y,b[k]?=some y:=⟨_,gEl (by have:=HNB.o;omega)⟩;have HX:=qH hx;have HY:=qH hy;obtain⟨b1,o1,rfl,hc1⟩:=aa5 (Reads.below HA.o Aa.o) hx;obtain⟨b2,o2,rfl,hc2⟩:=aa5 (Reads.below HB.o Aa.o) hy;by_cases hxy:x=y
    . subst hxy;have HE:Hid (a.take (k+1)=b.take (k+1)):=bR0 An.o hx hy;generalize (x.toNat:Int)=xi at *;clear hx hy An;go_wp2_with fail;go_region
      all_goals go_wp2_with fail
      all_goals go_roundw
      case rel=>exact⟨k+1,qO,by go_num,Aa.o.drew,HE⟩
      case measure=>simp[intOf];omega
    . have HE:Hid (a≠b):=ce2 hx hy hxy;have hxi:¬(x.toNat:Int)=(y.toNat:Int):=fun h=>hxy (UInt8.toNat_inj.1 qO);generalize (x.toNat:Int)=xi,(y.toNat:Int)=yi at *;clear hx hy An hxy;go_wp2_with fail;go_region
      all_goals go_wp2_with fail
      all_goals go_ret
      all_goals exact⟨by rw[qG HE.o];rfl,Aa.o.drew⟩
   .
    have HE:=qH (show a=b by
     have h:=An.o
     rw[qP (by have:=HNA.o;omega),qP (by have:=HNB.o;omega)]at h
     exact h)
    clear An;go_wp2_with fail;go_ret;exact⟨by rw[qV HE.o];rfl,Aa.o⟩
 . have HE:Hid (a≠b):=(show a≠b from fun e=>hne (by rw[HNA.o,HNB.o,e]));have hq:¬(NA:Int)=NB:=qO;go_enter func38,ntmps38;go_wp2_with fail;go_ret;exact⟨by rw[qG HE.o];rfl,Below.refl _ _⟩
theorem bD4(ab:Option Addr)(cb:Nat)(bs:qU)(w:World)(hr:Reads w (.slice ab bs.length cb) bs.length (bs.map U))(hl:bs.length<=100000):
 Calls prog 70 #[.slice ab bs.length cb] w fun e w'=>∃ar cr,e=.returned (.slice ar bs.length cr)/\PB w w' ar cr bs/\Bq w w':=by
 obtain⟨i0,hi,hi0,hi1,hi2⟩:=info_parts ba3;have hq:∀(w:World)(a:Option Addr)(n c n' c':Nat),(binOp .eql 28 (.slice a n c) (.slice none n' c')).run prog w=.ok (.bool a.isNone) w:=fun w a n c n' c'=>Lib.run_eql_slice_nil w _ _ a n c n' c' underlying28;obtain⟨h1,ao,cap,e,h2,h3,h4⟩:=hr;injection e with e1 e2 e3;subst e1 e3
 cases ab with
 | none=>
  have h0:bs=[]:=by
   cases bs with
   | nil=>rfl
   | cons x r=>obtain⟨b,off,e,_⟩:=h4 (by simp);cases e
  subst h0;clear h4 h1;go_enter func70,ntmps70;go_wp2_with fail;go_ret;exact⟨none,0,rfl,PB.none _ _,Below.refl _ _⟩
 | some a=>
  have Ac:∀j u,(bs.map U)[j]?=some u->w.cell? (a.add j)=some u:=by
   intro j u hj;have:0<bs.length:=by have:=(gSm hj).1;simp at this;omega
   obtain⟨b,off,e,hc⟩:=h4 qO;injection e with e;subst e;rw[addP];exact hc j u hj
  have HC:Hid _:=Ac;obtain⟨xs,hxs⟩:=qE (bs.map U);have HX:=qH hxs;obtain⟨N,hN⟩:=qE bs.length;have HN:=qH hN;have HXL:=qH (show xs.length=N by rw[hxs,hN,qS]);rw[<- hxs]at HC;unfold PB;rw[<- hxs,<- hN];rw[<- hN]at hl;clear h4 h1 Ac hxs hN h2 h3;go_enter func70,ntmps70;go_wp2_with (at_builtin;refine xB _ rfl _ _ 28 rfl w.heap.size 5 i0 (.int .u8 0) 1 1 underlying28 hi hi0 hi1 hi2 rfl (by decide) _ _ _ rfl (World.ownsRow_made w #[] 0 (qA _) (qM _) rfl) a N cb xs rfl ?qc1 ?qc2 ?qc3 ?qc4 ?qc5 ?qc6 ?_)
  case qc1=>first|(rw[HXL.o];done)|(rw[HXL.o,zI])
  case qc2=>intro j u hj;have h:=HC.o j u hj;rw[P6.cell (bLt w _ h)];exact h
  case qc3=>rw[HX.o];exact aI5
  case qc4=>unfold maxLen;omega
  case qc5=>omega
  all_goals try (case qc6=>simp)
  .
   intro v' w1 Ab hg Dt;have HB:Hid (Bq w w1):=P6.grown hg (by simp) (fun k hk=>by injection hk with hk;subst hk;exact qA _);have Ag:w1.ownsRow w.heap.size 5 1 v' N xs:=by simpa using Ab
   have HO:=qH Ag
   have HR:Hid (∃ar cr,v'=.slice ar N cr/\(∀a,ar=some a->w.heap.size<=a.block)/\(ar=none->cr=0)):=(show ∃ar cr,v'=.slice ar N cr/\(∀a,ar=some a->w.heap.size<=a.block)/\(ar=none->cr=0) by
    rcases Ag.2 with⟨rfl,h0⟩|⟨g,cap,cur,rfl,hb,_⟩
    . exact⟨none,0,by rw[h0],(fun a h=>by cases h),fun _=>rfl⟩
    . exact⟨_,cap,rfl,(fun a h=>by injection h with h;subst h;exact hb),fun h=>by cases h⟩)
   clear Ab hg Dt Ag;go_wp2;go_ret;obtain⟨ar,cr,hv,hn⟩:=HR.o;refine⟨ar,cr,by rw[<- hv];rfl,⟨?_,hn⟩,HB.o⟩;rw[<- hv];exact Reads.of_owns HO.o
theorem aH0(base:Nat)(t ty e:TypeId)(i:TypeInfo)(size c:Nat)(ht:P.underlying t=some (.slice e))(hi:P.info? e=some i)(v:Value)(n:Nat)(xs:List Value)(Ab:w.ownsRow base e size v n xs):
 (Builtin.append_ #[t,t] ty #[v,.slice none 0 c]).run P w=.ok v w:=by
 rcases Ab.2 with⟨rfl,rfl⟩|⟨g,cap,cur,rfl,_,_,hnc,_⟩
 . simp[Builtin.append_,run_underlying ht,sizeOf,typeInfo,hi,Builtin.lenOf,Builtin.firstCells]
 . simp[Builtin.append_,run_underlying ht,sizeOf,typeInfo,hi,Builtin.lenOf,Builtin.firstCells,hnc,storeCells]
def SrcC(w:World)(ao:Option Addr)(m:Nat)(ys:List Value):Prop:=(ao=none->m=0)/\∀a,ao=some a->∀j u,ys[j]?=some u->w.cell? (a.add j)=some u
theorem Y7(ht:P.underlying t=some (.slice e))(hi:P.info? e=some i)(hz:i.zero=some z)(Dh:i.size=size)(hby:i.bytes=bytes)(hzs:z.cells.size=size)(hsz:0<size)(hb0:0<bytes)
 {v:Value} {n:Nat} {xs:List Value} (Ab:w.ownsRow base e size v n xs) {ao:Option Addr} {m c:Nat} {ys:List Value} (hl:ys.length=m*size) (hs:SrcC w ao m ys) (h1:∀u∈ys,u.oneCell'=true) (Hv:(n+m)*bytes<=140737488355328) (Nj:base<=w.heap.size) (ty:TypeId):
 ∃v' w',(Builtin.append_ #[t,t] ty #[v,.slice ao m c]).run P w=.ok v' w'/\w'.ownsRow base e size v' (n+m) (xs++ys)/\w.grownBy w' v.ownBlock/\(v'.ownBlock=v.ownBlock\/v'.ownBlock=some w.heap.size):=by
 have hnm:n+m<=140737488355328:=qc (Nat.le_mul_of_pos_right _ hb0) Hv
 cases ao with
 | none=>obtain rfl:=hs.1 rfl;obtain rfl:ys=[]:=qn qO;exact⟨v,w,aH0 base t ty e i size c ht hi v n xs Ab,by simpa using Ab,⟨rfl,rfl,rfl,qA _,fun _ _ _=>rfl⟩,.inl rfl⟩
 | some a=>obtain⟨v',w',hr,h2,h3,_,h5⟩:=run_append_own_at (P:=P) w base t ty e i z size bytes ht hi hz Dh hby hzs hsz v n xs Ab a m c ys hl (hs.2 a rfl) h1 (by unfold maxLen;omega) Hv Nj;exact⟨v',w',hr,h2,h3,h5⟩
theorem I0(h:w.ownsRow B e size v n xs):∃a c,v=.slice a n c/\n<=c/\c<=maxLen:=by
 rcases h.2 with⟨rfl,h0⟩|⟨g,cap,cur,rfl,_,_,h1,h2,_⟩
 . exact⟨none,0,by rw[h0],qO,by simp[maxLen]⟩
 . exact⟨_,cap,rfl,h1,h2⟩
theorem bt1(w:World)(e:TypeId)(size:Nat):(w.alloc (.cells #[] e)).ownsRow w.heap.size e size (.slice (some ⟨w.heap.size,0,none⟩) 0 0) 0 []:=by have h:=World.ownsRow_made (base:=w.heap.size) (e:=e) (size:=size) w #[] 0 (qA _) (qM _) (by simp);simpa using h
theorem bi7(ht:P.underlying t=some (.slice e))(hi:P.info? e=some i)(hz:i.zero=some z)(Dh:i.size=size)(hby:i.bytes=bytes)(hzs:z.cells.size=size)(hsz:0<size)(hb0:0<bytes)
 {ao:Option Addr} {m c:Nat} {ys:List Value} (hl:ys.length=m*size) (hs:SrcC w ao m ys) (h1:∀u∈ys,u.oneCell'=true) (Hv:m*bytes<=140737488355328) (ty:TypeId):
 ∃v' w',(Builtin.append_ #[t,t] ty #[.slice (some ⟨w.heap.size,0,none⟩) 0 0,.slice ao m c]).run P (w.alloc (.cells #[] e))=.ok v' w'/\w'.ownsRow w.heap.size e size v' m ys/\Bq w w':=by have hb:Bq w (w.alloc (.cells #[] e)):=(Below.refl _ w).alloc (qA _) _;obtain⟨v',w',hr,h2,h3,_⟩:=Y7 (w:=w.alloc (.cells #[] e)) (base:=w.heap.size) (c:=c) ht hi hz Dh hby hzs hsz hb0 (bt1 w e size) (m:=m) (ao:=ao) hl ⟨hs.1,fun a ha j u hu=>(hb.cell (bLt w _ (hs.2 a ha j u hu))).trans (hs.2 a ha j u hu)⟩ h1 (by simpa using Hv) (by simp) ty;refine⟨v',w',hr,by simpa using h2,hb.grown h3 (by simp) (fun g hg=>?_)⟩;simp[Value.ownBlock]at hg;omega
theorem j4(w:World){o:Oper}{a:Act}(hgd:o.guard=none)(s x:Operand)(t:TypeId)
 (ho:o.op=.call { callee:=.builtin .append,args:=#[s,x],argTypes:=#[t,t] }) (v u:Value) (hs:a.eval s=v) (hx:a.eval x=u) {v':Value} {w':World} (Ae:(Builtin.append_ #[t,t] o.type #[v,u]).run P w=.ok v' w') (hK:wpList P ops Q rest (a.put o.dst v') w'):wpList P ops Q (o::rest) a w:=by refine wpList_plain hgd fun K hK'=>?_;unfold Oper.wp;simp[execOp,ho,resolve,invoke,builtin,hs,hx,Ae,Result.andThen];exact hK' _ _ hK
theorem aI6(b:qU):∀u∈b.map U,u.oneCell'=true:=by intro u hu;obtain⟨x,_,rfl⟩:=xA.1 hu;rfl
theorem ag9:(prog.info? 5).map (fun i=>(i.zero,i.size,i.bytes))=some (some (.int .u8 0),1,1):=qQ
theorem ac6{c:Nat}(h:Reads w (.slice ao n c) n xs):SrcC w ao n xs:=by
 obtain⟨h1,ao',cap,e,h2,h3,h4⟩:=h;injection e with e1 e2 e3;subst e1;refine⟨fun h0=>?_,fun a ha j u hu=>?_⟩
 . by_cases hn:n=0
   . exact hn
   . obtain⟨b,off,e,_⟩:=h4 hn;rw[h0]at e;cases e
 . have hn:n≠0:=by have:=(gSm hu).1;omega
   obtain⟨b,off,e,hc⟩:=h4 hn;rw[ha]at e;injection e with e;subst e;rw[addP];exact hc j u hu
theorem Y8{c:Nat}{b:qU}(hr:Reads w (.slice ao b.length c) b.length (b.map U))(hl:b.length<=140737488355328)(ty:TypeId):
 ∃v' w',(Builtin.append_ #[28,28] ty #[.slice (some ⟨w.heap.size,0,none⟩) 0 0,.slice ao b.length c]).run prog (w.alloc (.cells #[] 5))=.ok v' w'/\w'.ownsRow w.heap.size 5 1 v' b.length (b.map U)/\Bq w w':=by obtain⟨i0,hi,hi0,hi1,hi2⟩:=info_parts ag9;exact bi7 underlying28 hi hi0 hi1 hi2 rfl (by decide) (by decide) (by simp) (ac6 hr) (aI6 b) qO ty
theorem J9:(prog.info? 9).map (fun i=>(i.zero,i.size,i.bytes))=some (some (.string ⟨#[]⟩),1,16):=qQ
theorem bR2(ao:Option Addr)(cap:Nat)(w:World):
 Calls prog 146 #[.slice ao 0 cap] w fun e w'=>e=.returned (.slice none 0 0)/\w'=w:=by
 go_enter func146,ntmps146;go_wp2;go_loopw [3,4,9] (fun v4 s i wr=>v4=.slice none 0 0/\s=.int .i64 0/\i=.int .i64 0/\wr=w) (fun _ _ _ _=>0)
 case atStart=>exact⟨rfl,rfl,rfl,rfl⟩
 case round=>obtain⟨rfl,rfl,rfl,rfl⟩:=hrel;go_wp2;go_ret;exact⟨rfl,rfl⟩
theorem bt2(bs:qU)(k st:Nat)(D:qL)(h:k<bs.length)(hst:st<=k)(he:D++A2 ((bs.take k).drop st) (bs.drop k)=lines bs):
 (bs[k]=10->(D++[(bs.take k).drop st])++A2 ((bs.take (k+1)).drop (k+1)) (bs.drop (k+1))=lines bs) /\
 (bs[k]≠10->D++A2 ((bs.take (k+1)).drop st) (bs.drop (k+1))=lines bs):=by
 have hd:bs.drop k=bs[k]::bs.drop (k+1):=(qt h);rw[hd,A2]at he;constructor
 . intro e;rw[qF e]at he;rw[<- he];simp
 . intro e;rw[qB e]at he;rw[<- he,List.take_succ_eq_append_getElem h,List.drop_append_of_le_length (by simp;omega)]
theorem bG5(bs:qU)(st:Nat)(D:qL)(he:D++A2 ((bs.take bs.length).drop st) (bs.drop bs.length)=lines bs):
 (st<bs.length->D++[bs.drop st]=lines bs)/\(¬st<bs.length->D=lines bs):=by
 simp only[qj,List.drop_length]at he;unfold A2 at he;constructor
 . intro h;rw[qB (by simp;omega)]at he;exact he
 . intro h;rw[qF (by simp;omega)]at he;simpa using he
theorem aI7(w:World)(b off st en cap:Nat)(bs:qU)(hse:st<=en)(hen:en<=bs.length)
 (hc:∀j u,(bs.map U)[j]?=some u->w.cell? ⟨b,off+j,none⟩=some u):
 (convert 28 9 (.slice (some ⟨b,off+st,none⟩) (en-st) cap)).run prog w=.ok (S ((bs.take en).drop st)) w:=by
 have hl:((bs.take en).drop st).length=en-st:=by simp;omega
 have:=run_convert_bytes_back (P:=prog) w 28 9 5 ⟨b,off+st,none⟩ cap ((bs.take en).drop st) underlying28 underlying5 underlying9 (fun j hj=>by
  have Ce:(⟨b,off+st,none⟩:Addr).add j=⟨b,off+(st+j),none⟩:=by unfold Addr.add;split <;> simp_all [zK]
  rw[Ce]
  have hj':st+j<bs.length:=qO
  rw[hc (st+j) (U bs[st+j]) (by simp[hj'])]
  simp[U])
 rw[hl]at this;exact this
theorem bD5{wr:World}{v':Value}(Ab:wr.ownsRow w.heap.size 9 1 v D.length (D.map S))(Aa:Bq w wr)(hsx:Value.string sx=S l)
 (Ag:w1.ownsRow w.heap.size 9 1 v' (D.length+1) (D.map S++[.string sx])) (Am:(wr.alloc o).grownBy w1 v.ownBlock):
 w1.ownsRow w.heap.size 9 1 v' (D++[l]).length ((D++[l]).map S)/\Bq w w1:=by refine⟨by simpa[<- hsx]using Ag,?_⟩;exact (Aa.alloc (by have:=Aa.size;omega) o).grown Am (by have:=Aa.size;simp;omega) (fun k hk=>(Ab.lt k hk).1)
theorem bR3(b off cap:Nat)(bs:qU)(w:World)(h0:0<bs.length)(hle:bs.length<=250000000)(hcap:bs.length<=cap)(hcm:cap<=9223372036854775807)
 (hc:∀j u,(bs.map U)[j]?=some u->w.cell? ⟨b,off+j,none⟩=some u):
 Calls prog 146 #[.slice (some ⟨b,off,none⟩) bs.length cap] w fun e w'=>∃r,e=.returned r /\
  w'.ownsRow w.heap.size 9 1 r (lines bs).length ((lines bs).map S)/\Bq w w':=by
 obtain⟨i0,hi,hz0,hz1,hz2⟩:=info_parts J9;have hbB:b<w.heap.size:=bLt w _ (hc 0 (U bs[0]) (by simp[h0]));generalize hn:bs.length=n at *;go_enter func146,ntmps146;go_wp2
 go_loopw [3,4,9] (fun v4 s i wr=>∃(k st:Nat)(D:qL),st<=k/\k<=n/\i=.int .i64 k/\s=.int .i64 st/\wr.ownsRow w.heap.size 9 1 v4 D.length (D.map S)/\Bq w wr/\D.length<=k/\Hid (D++A2 ((bs.take k).drop st) (bs.drop k)=lines bs))
  (fun _ _ i _=>n-(intOf i).toNat)
 case atStart=>exact⟨0,0,[],qA _,qM _,rfl,rfl,World.ownsRow_nil _ _ _ _,Below.refl _ _,qA _,by simp[Hid,lines]⟩
 case round=>
  obtain⟨k,st,D,hsk,hk,rfl,rfl,Ab,Aa,hDk,Hi⟩:=hrel;have hcr:∀j u,(bs.map U)[j]?=some u->wr.cell? ⟨b,off+j,none⟩=some u:=fun j u hu=>(Aa.cell (by exact hbB)).trans (hc j u hu);by_cases hlt:k<n
  .
   have Ac:wr.cell? ⟨b,off+k,none⟩=some (.int .u8 ((bs[k]'(by omega)).toNat:Int)):=hcr k _ (by simp[U,hn,hlt]);have Bo:=bt2 bs k st D qO hsk Hi.o;have Ky:Hid _:=Bo;clear Bo
   obtain⟨sx,hsx,Ea⟩:∃sx,Hid (Value.string sx=S ((bs.take k).drop st))/\(convert 28 9 (.slice (some ⟨b,off+st,none⟩) (k-st) (cap-st))).run prog wr=.ok (.string sx) wr:=
    ⟨_,rfl,aI7 wr b off st k (cap-st) bs hsk qO hcr⟩
   clear hcr hc Hi;by_cases Iu:bs[k]'(by omega)=10
   .
    have Up:wr.cell? ⟨b,off+k,none⟩=some (.int .u8 10):=by rw[Ac,Iu];rfl
    have Hr:Hid _:=(Ky.o).1 Iu;clear Ac Ky Iu;go_wp2_with (at_builtin;refine xB _ rfl _ _ 110 rfl w.heap.size 9 i0 (.string ⟨#[]⟩) 1 16 underlying110 hi hz0 hz1 hz2 rfl (by decide) _ _ _ rfl (Ab.alloc _) ⟨wr.heap.size,0,none⟩ 1 1 [.string sx] rfl rfl ?c1 ?c2 ?c3 ?c4 ?c5 ?_)
    case c1=>
     intro j u hj
     match j,hj with
     | 0,hj=>simp at hj;subst hj;simp[Addr.add]
    case c2=>intro u hu;simp at hu;subst hu;rfl
    case c3=>unfold maxLen;omega
    case c4=>omega
    case c5=>have:=Aa.size;simp;omega
    . intro v' w1 Ag Am _;have R:=bD5 Ab Aa hsx.out Ag Am;clear Ag Am Ab Aa hsx Ea Up;go_wp2;go_roundw
      case rel=>exact⟨k+1,k+1,D++[(bs.take k).drop st],qA _,qO,by go_num,by go_num,R.1,R.2,by simp;omega,Hr.o⟩
      case measure=>simp[intOf];omega
   . have hne:(((bs[k]'(by omega)).toNat:Int)==10)=false:=by rw[qg];intro e;exact Iu (UInt8.toNat_inj.1 (show _=10 by omega))
     have Hr:Hid _:=(Ky.o).2 Iu;clear Ky Iu Ea hsx;go_wp2;go_roundw
     case rel=>exact⟨k+1,st,D,qO,qO,by go_num,rfl,Ab,Aa,qO,Hr.o⟩
     case measure=>simp[intOf];omega
  .
   have hkn:k=n:=qO;subst hkn;subst hn;have He:Hid _:=bG5 bs st D Hi.o;clear Hi hc;by_cases hst:st<bs.length
   .
    obtain⟨sx,hsx,Ea⟩:∃sx,Hid (Value.string sx=S (bs.drop st))/\(convert 28 9 (.slice (some ⟨b,off+st,none⟩) (bs.length-st) (cap-st))).run prog wr=.ok (.string sx) wr:=
     ⟨_,rfl,by have:=aI7 wr b off st bs.length (cap-st) bs qO (qA _) hcr;rwa [qj]at this⟩
    have Hr:Hid _:=(He.o).1 hst;clear hcr He;go_wp2_with (at_builtin;refine xB _ rfl _ _ 110 rfl w.heap.size 9 i0 (.string ⟨#[]⟩) 1 16 underlying110 hi hz0 hz1 hz2 rfl (by decide) _ _ _ rfl (Ab.alloc _) ⟨wr.heap.size,0,none⟩ 1 1 [.string sx] rfl rfl ?d1 ?d2 ?d3 ?d4 ?d5 ?_)
    case d1=>
     intro j u hj
     match j,hj with
     | 0,hj=>simp at hj;subst hj;simp[Addr.add]
    case d2=>intro u hu;simp at hu;subst hu;rfl
    case d3=>unfold maxLen;omega
    case d4=>omega
    case d5=>have:=Aa.size;simp;omega
    . intro v' w1 Ag Am _;have R:=bD5 Ab Aa hsx.out Ag Am;clear Ag Am Ab Aa hsx Ea;go_wp2;go_ret;rw[Hr.o]at R;exact⟨v',rfl,R.1,R.2⟩
   . have Hr:Hid _:=(He.o).2 hst;clear hcr He;go_wp2;go_ret;rw[Hr.o]at Ab;exact⟨_,rfl,Ab,Aa⟩
theorem aB5(v:Value)(bs:qU)(w:World)(hr:Reads w v bs.length (bs.map U))(hle:bs.length<=250000000):
 Calls prog 146 #[v] w fun e w'=>∃r,e=.returned r /\
  w'.ownsRow w.heap.size 9 1 r (lines bs).length ((lines bs).map S)/\Bq w w':=by
 obtain⟨_,ao,cap,rfl,h2,h3,h4⟩:=hr;by_cases h0:bs.length=0
 . have hb:bs=[]:=qn h0;subst hb;refine (bR2 ao cap w).mono ?_;rintro e w'⟨rfl,rfl⟩;exact⟨_,rfl,by simpa[lines,A2]using World.ownsRow_nil _ _ _ _,Below.refl _ _⟩
 . obtain⟨b,off,rfl,hc⟩:=h4 h0;exact bR3 b off cap bs w qO hle h2 (by simpa[maxLen]using h3) hc
theorem aB6{lo hi:Nat}(h:Reads w (.slice (some ⟨g,0,none⟩) n cap) n xs)(h1:lo<=hi)(h2:hi<=n):
 Reads w (.slice (some ⟨g,lo,none⟩) (hi-lo) (cap-lo)) (hi-lo) ((xs.take hi).drop lo):=by
 obtain⟨hl,ao,cap',e,h3,h4,h5⟩:=h;simp only[xT,true_and]at e;obtain⟨rfl,rfl⟩:=e;refine⟨by simp;omega,_,_,rfl,qO,qO,fun hn=>?_⟩;obtain⟨b,off,e,hc⟩:=h5 qO;simp only[qe,Addr.mk.injEq,and_true]at e;obtain⟨rfl,rfl⟩:=e;refine⟨g,lo,rfl,fun j u hu=>?_⟩;rw[xu,xg]at hu;split at hu
 . have:=hc _ _ hu;rwa [qk]at this
 . cases hu
theorem A5(h:w.ownsRow base e size v n xs)(hb:Bq w w'):w'.ownsRow base e size v n xs:=
 h.kept (row:=none) ⟨hb.os,hb.tape,hb.output,hb.size,fun k hk _=>hb.block k hk⟩ (by cases hv:v.ownBlock <;> simp)
theorem Y9(w:World)(C:Array Value)(e:TypeId)(fr:Nat × Nat)(n:Nat)(hn:C.size=n)(hm:n<=250000000):Reads (w.alloc (.cells C e fr)) (.slice (some ⟨w.heap.size,0,none⟩) n n) n C.toList:=by refine⟨by simpa using hn,_,n,rfl,qA _,by unfold maxLen;omega,fun _=>⟨w.heap.size,0,rfl,fun j u hu=>?_⟩⟩;rw[qY _ _ _ _ _ _ (qJ w _)];simpa using hu
theorem bt3(h:w.ownsRow base e 1 v n xs)(hn:n≠0):∃g cap,v=.slice (some ⟨g,0,none⟩) n cap:=by
 rcases h.2 with⟨_,h0⟩|⟨g,cap,cur,rfl,_⟩
 . exact absurd h0 hn
 . exact⟨g,cap,rfl⟩
theorem bt4{b:Nat}(h:Reads w (.slice (some ⟨b,off,none⟩) n cap) n (bs.map U))(hn:n≠0):
 (convert 28 9 (.slice (some ⟨b,off,none⟩) n cap)).run prog w=.ok (.string ⟨bs.toArray⟩) w:=by
 obtain⟨hl,ao,cap',e,_,_,h4⟩:=h;simp only[xT,true_and]at e;obtain⟨rfl,rfl⟩:=e;obtain⟨b',off',e,hc⟩:=h4 hn;simp only[qe,Addr.mk.injEq,and_true]at e;obtain⟨rfl,rfl⟩:=e;have hl':bs.length=n:=by simpa using hl
 have:=aI7 w b off 0 n cap bs (qM _) qO hc;simpa[<- hl',S]using this
theorem M4(h:w.ShapedOpen prog)(hb:Bq w w'):w'.ShapedOpen prog:=
 h.keptBut (hb.frame (fun _=>False)) (fun _ hp=>hp.elim)
theorem ah0(h:Reads w v bs.length (bs.map U)):
 (convert 28 9 v).run prog w=.ok (.string ⟨bs.toArray⟩) w:=by
 obtain⟨hl,ao,cap,rfl,h2,h3,h4⟩:=h;by_cases h0:bs.length=0
 .
  have hb:bs=[]:=qn h0;subst hb
  cases ao with
  | none=>exact run_convert_bytes_nil (P:=prog) w 28 5 underlying28 underlying5 _ _ 9 underlying9
  | some a=>exact run_convert_bytes_back (P:=prog) w 28 9 5 a cap [] underlying28 underlying5 underlying9 (fun j hj=>absurd hj (zm _))
 . obtain⟨b,off,rfl,hc⟩:=h4 h0;exact bt4 ⟨hl,_,cap,rfl,h2,h3,fun _=>⟨b,off,rfl,hc⟩⟩ h0
theorem aU2(l:List ByteArray):l.map Value.string=(l.map (·.data.toList)).map S:=by rw[zP];apply zq;intro s _;simp[S]
theorem av7{m:Nat}(h:Reads w (.slice (some ⟨g,0,none⟩) n cap) n xs)(h1:m<=n):Reads w (.slice (some ⟨g,0,none⟩) m cap) m (xs.take m):=by have:=aB6 h (qM m) h1;simpa using this
theorem bi8(w:World)(s:ByteArray)(cap:Nat)(fr:Nat × Nat)(hcap:s.size<=cap)(hm:cap<=maxLen):
 Reads (w.alloc (.cells (bytesRow s cap) 5 fr)) (.slice (some ⟨w.heap.size,0,none⟩) s.size cap) s.size (s.data.toList.map U):=by
 refine⟨by rw[qS];exact zF,_,cap,rfl,hcap,hm,fun _=>⟨w.heap.size,0,rfl,fun j u hu=>?_⟩⟩;rw[qY _ _ _ _ _ _ (qJ w _)];have hj:j<s.data.size:=by have:=(gSm hu).1;simpa using this
 rw[qk];unfold bytesRow;rw[Array.getElem?_append_left (by simpa using hj)];simp only[qa,xH]at hu;rw[Array.getElem?_map];exact hu
def str(l:qU):ByteArray:=⟨l.toArray⟩
theorem aq2{pss:List (List α)}{p:List α}(h:pss[k]?=some p):(pss.take (k+1)).flatten=(pss.take k).flatten++p:=by rw[qZ,h];simp
theorem bD6(pss:List (List α))(k:Nat):((pss.take k).flatten).length<=(pss.flatten).length:=by
 conv=>rhs;rw[<- xU k pss,zt]
 simp
def RList{α:Type}(w:World)(v:Value)(f:α->Value)(pss:List (List α)):Prop:=
 ∃us:List Value,Reads w v pss.length us/\∀(j:Nat)(p:List α),pss[j]?=some p->∃u,us[j]?=some u/\Reads w u p.length (p.map f)
theorem RList.below{f:α->Value}{pss:List (List α)}(h:RList w v f pss)(hb:Bq w w'):RList w' v f pss:=by obtain⟨us,h1,h2⟩:=h;refine⟨us,h1.below hb,fun j p hj=>?_⟩;obtain⟨u,h3,h4⟩:=h2 j p hj;exact⟨u,h3,h4.below hb⟩
theorem RList.shape{f:α->Value}{pss:List (List α)}(h:RList w v f pss):∃ao cap,v=.slice ao pss.length cap/\pss.length<=cap/\cap<=maxLen:=by obtain⟨us,⟨_,ao,cap,h2,h3,h4,_⟩,_⟩:=h;exact⟨ao,cap,h2,h3,h4⟩
theorem RList.at{f:α->Value}{pss:List (List α)}(h:RList w (.slice ao n cap) f pss){p:List α}(hk:pss[k]?=some p):
 ∃b off au cu,ao=some ⟨b,off,none⟩/\w.cell? ⟨b,off+k,none⟩=some (.slice au p.length cu)/\Reads w (.slice au p.length cu) p.length (p.map f):=by obtain⟨us,⟨h1,ao',cap',e,_,_,h5⟩,h2⟩:=h;injection e with e1 e2 e3;subst e1;obtain⟨u,hu,hr⟩:=h2 k p hk;obtain⟨hkl,_⟩:=gSm hk;obtain⟨b,off,hao,hc⟩:=h5 qO;obtain⟨hl,au,cu,rfl,hr'⟩:=hr;exact⟨b,off,au,cu,hao,hc k _ hu,hl,au,cu,rfl,hr'⟩
theorem A3{pss:List (List α)}{p:List α}(h:p∈pss):p.length<=pss.flatten.length:=by obtain⟨s,t,rfl⟩:=List.append_of_mem h;simp;omega
theorem av8{pss:List (List α)}{p:List α}(h:pss[k]?=some p):((pss.take k).flatten).length+p.length<=pss.flatten.length:=by have:=bD6 pss (k+1);rw[aq2 h,qI]at this;exact this
end Go.Proofs.YtmejdflmcikkdaaGreatDoor
namespace Go.Gs
open Go.RowKit
variable {l m p r:qL}{b k n cap ci:Nat}{s:qU}{ps:List qL}{w w':World}{xs:List Value}{ao ai:Option Addr}
structure Cmd where
 kind:Int
 word:qU
 n:Int
def Cmd.v(c:Cmd):Value:=.agg #[.int .i64 c.kind,.string ⟨c.word.toArray⟩,.int .i64 c.n]
def I3(c:UInt8):Bool:=(97<=c.toNat && c.toNat<=122) || (48<=c.toNat && c.toNat<=57)
def isWord(s:qU):Bool:=decide (0<s.length) && decide (s.length<=12) && s.all I3
def uses(k:Int):Nat:=if 1<=k/\k<=3 then 1 else if k=4\/k=9\/k=10 then 2 else if 5<=k/\k<=8 then 3 else 0
def chk(c:Cmd):Int:=
 if uses c.kind=0 then 4
 else if (uses c.kind≠1/\c.word≠[])\/(uses c.kind≠2/\c.n≠0) then 4
 else if uses c.kind=2/\(c.n<1\/1000<c.n) then 3
 else if uses c.kind=1/\(isWord c.word=false\/(c.kind=3/\c.word.length≠2)) then 1
 else 0
def Q3(k:Int):Bool:=decide (1<=k/\k<=5)
def P2(a b:UInt8)(s:qU):qU:=s.map fun x=>if x=a then b else x
def H6(n:Int)(s:qU):qU:=((Lib.split s [32])[(n-1).toNat]?).getD []
def P3(ls:qL):qL:=ls.mergeSort fun x y=>decide (x<=y)
def made(c:Cmd)(ls:qL):qL:=
 if c.kind=1 then ls.filter (fun s=>Lib.contains s c.word)
 else if c.kind=2 then ls.filter (fun s=>!Lib.contains s c.word)
 else if c.kind=3 then ls.map (P2 (c.word.getD 0 0) (c.word.getD 1 0))
 else if c.kind=4 then ls.map (H6 c.n)
 else if c.kind=5 then ls.map List.reverse
 else if c.kind=6 then P3 ls
 else if c.kind=7 then Lib.compact ls
 else if c.kind=8 then [Lib.itoa (ls.length:Int)]
 else if c.kind=9 then ls.take c.n.toNat
 else ls.drop (ls.length-c.n.toNat)
theorem made1(c:Cmd)(h:c.kind=1)(ls:qL):made c ls=ls.filter (fun s=>Lib.contains s c.word):=by simp[made,h]
theorem made2(c:Cmd)(h:c.kind=2)(ls:qL):made c ls=ls.filter (fun s=>!Lib.contains s c.word):=by simp[made,h]
theorem made3(c:Cmd)(h:c.kind=3)(ls:qL):made c ls=ls.map (P2 (c.word.getD 0 0) (c.word.getD 1 0)):=by simp[made,h]
theorem bD7(c:Cmd)(h:c.kind=4)(ls:qL):made c ls=ls.map (H6 c.n):=by simp[made,h]
theorem bD8(c:Cmd)(h:c.kind=5)(ls:qL):made c ls=ls.map List.reverse:=by simp[made,h]
theorem aI8(c:Cmd)(h:c.kind=6)(ls:qL):made c ls=P3 ls:=by simp[made,h]
theorem bR4(c:Cmd)(h:c.kind=7)(ls:qL):made c ls=Lib.compact ls:=by simp[made,h]
theorem bR5(c:Cmd)(h:c.kind=8)(ls:qL):made c ls=[Lib.itoa (ls.length:Int)]:=by simp[made,h]
theorem bR6(c:Cmd)(h:c.kind=9)(ls:qL):made c ls=ls.take c.n.toNat:=by simp[made,h]
theorem bt5(c:Cmd)(h:c.kind=10)(ls:qL):made c ls=ls.drop (ls.length-c.n.toNat):=by simp[made,h]
theorem aB7(c:Cmd)(h:chk c=0):1<=c.kind/\c.kind<=10:=by
 unfold chk at h;split at h
 . cases h
 .
  rename_i hu;unfold uses at hu;split at hu
  . omega
  . split at hu
    . omega
    . split at hu
      . omega
      . exact absurd rfl hu
theorem bi9(c:Cmd)(h:Q3 c.kind=true)(xs ys:qL):made c (xs++ys)=made c xs++made c ys:=by
 have hk:c.kind=1\/c.kind=2\/c.kind=3\/c.kind=4\/c.kind=5:=by have:=qp h;omega
 rcases hk with hk | hk | hk | hk | hk <;> simp[made,hk]
theorem bG6(x y:qU):(decide (x<=y) || decide (y<=x))=true:=by simp only[Bool.or_eq_true,zh];exact List.le_total x y
theorem bG7(x y z:qU)(h1:decide (x<=y)=true)(h2:decide (y<=z)=true):decide (x<=z)=true:=
 qV (List.le_trans (qp h1) (qp h2))
theorem aa6(l:qL):(P3 l).Perm l:=List.mergeSort_perm _ _
theorem as1(l:qL):(P3 l).Pairwise (fun x y=>x<=y):=by have:=List.pairwise_mergeSort (le:=fun x y:qU=>decide (x<=y)) bG7 bG6 l;exact this.imp (fun h=>qp h)
theorem as2:∀(l m:qL),l.Perm m->l.Pairwise (fun x y=>x<=y)->m.Pairwise (fun x y=>x<=y)->l=m:=by intro l m hp hl hm;exact hp.eq_of_pairwise (fun a b _ _ h1 h2=>List.le_antisymm h1 h2) hl hm
structure SFile where
 name:qU
 b:qU
def fbad(p:Option qU)(f:SFile):Int:=
 if isWord f.name=false then 1
 else if 4000<f.b.length then 2
 else match p with
  | none=>0
  | some q=>if q<f.name then 0 else 6
def x9:Option qU->List SFile->Int
 | _,[]=>0
 | p,f::r=>if fbad p f=0 then x9 (some f.name) r else fbad p f
def fchk(l:List SFile):Int:=if 12<l.length then 2 else x9 none l
def E0(l:List SFile)(n:qU):qU:=((l.find? (fun f=>f.name==n)).map SFile.b).getD []
theorem K8(h:l.Sublist m):(ended l).length<=(ended m).length:=by
 induction h with
 | slnil=>exact qA _
 | cons a _ ih=>rw[F8];simp;omega
 | cons_cons a _ ih=>rw[F8,F8];simp;omega
theorem al8(h:l.Perm m):(ended l).length=(ended m).length:=by
 induction h with
 | nil=>rfl
 | cons a _ ih=>rw[F8,F8];simp;omega
 | swap a b l=>simp only[F8,qI];omega
 | trans _ _ h1 h2=>exact h1.trans h2
theorem O8(f:qU->qU)(hf:∀s,(f s).length<=s.length)(l:qL):(ended (l.map f)).length<=(ended l).length:=by
 induction l with
 | nil=>exact qA _
 | cons s l ih=>have:=hf s;rw[xy,F8,F8];simp;omega
theorem bt6(sep:qU):∀(k:Nat)(s:qU),∀p∈Lib.splitK sep 0 k s,p.length<=s.length:=by
 intro k
 induction k with
 | zero=>intro s p hp;simp[Lib.splitK]at hp;subst hp;exact qA _
 | succ k ih=>
  intro s p hp;unfold Lib.splitK at hp;split at hp
  . simp at hp;subst hp;exact qA _
  . simp only[zD]at hp;rcases hp with rfl | hp
    . simp;omega
    . have:=ih _ p hp;simp at this;omega
theorem aD9(n:Int)(s:qU):(H6 n s).length<=s.length:=by
 unfold H6
 cases h:(Lib.split s [32])[(n-1).toNat]? with
 | none=>simp
 | some p=>exact bt6 _ _ _ p (mGt h)
theorem aR7:∀(k u:Nat),u<10 ^ (k+1)->(Lib.decDigits u).length<=k+1:=by
 intro k
 induction k with
 | zero=>intro u h;rw[Lib.decDigits,dif_pos (by simpa using h)];simp
 | succ k ih=>
  intro u h;rw[Lib.decDigits];split
  . simp
  . have:=ih (u / 10) (by rw[Nat.div_lt_iff_lt_mul qO];rw[Nat.pow_succ]at h;exact h);simp;omega
theorem bj0(l:qL):(Lib.compact l).Sublist l:=by unfold Lib.compact Lib.compactUpTo;have h:=(List.filter_sublist (p:=Lib.keeps l.toArray) (l:=List.range l.length)).map (fun j=>l.toArray[j]!);have e:=Lib.range_map_get l.toArray;simp only[List.size_toArray]at e;rw[e]at h;exact h
theorem bR7{c:Cmd}(h:chk c=0)(hk:c.kind=3):c.word.length=2/\c.word.all I3=true:=by
 unfold chk at h;have hu:uses c.kind=1:=by rw[hk];rfl
 rw[hu]at h;by_cases hw:isWord c.word=false
 . simp[hw]at h;split at h <;> cases h
 .
  by_cases h2:c.word.length=2
  . refine⟨h2,?_⟩;have:isWord c.word=true:=by simpa using hw
    unfold isWord at this;simp at this;simpa using this.2
  . simp[hk,h2]at h;split at h <;> cases h
def jchk(how:Int)(c:Cmd):Int:=if how<1\/4<how then 4 else if how=4 then chk c else if c.kind=0/\c.word=[]/\c.n=0 then 0 else 4
def numOf(s:qU):Nat:=((List.range 4001).find? (fun(k:Nat)=>Lib.itoa (k:Int)==s)).getD 0
def S0(l:qL):Nat:=((l.head?).map numOf).getD 0
def sumOf(ps:List qL):Nat:=(ps.map S0).sum
def D7(ps:List qL):Nat->Option (Nat × qU)
 | 0=>none
 | k+1=>match (ps[k]?).bind List.head? with
  | none=>D7 ps k
  | some s=>match D7 ps k with
   | none=>some (k,s)
   | some (j,t)=>if s<t then some (k,s) else some (j,t)
def least(ps:List qL):Option (Nat × qU):=D7 ps ps.length
def V6:Nat->List qL->qL
 | 0,_=>[]
 | n+1,ps=>match least ps with
  | none=>[]
  | some (k,s)=>s::V6 n (ps.modify k (List.drop 1))
def V7(ps:List qL):qL:=V6 ps.flatten.length ps
def joined(how:Int)(c:Cmd)(ps:List qL):qL:=
 if how=2 then V7 ps else if how=3 then [Lib.itoa (sumOf ps:Int)] else if how=4 then made c ps.flatten else ps.flatten
def bt7(s:qU):Nat:=s.foldl (fun a c=>10*a+(c.toNat-48)) 0
theorem as3:∀u:Nat,bt7 (Lib.decDigits u)=u:=by
 intro u
 induction u using Nat.strongRecOn with
 | ind u ih=>
  rw[Lib.decDigits];split
  . simp[bt7];omega
  . rename_i h;have:=ih (u / 10) qO;unfold bt7 at this ⊢;rw[List.foldl_append,this];simp;omega
theorem bR8{a:Nat}(h:Lib.itoa (a:Int)=Lib.itoa (b:Int)):a=b:=by unfold Lib.itoa at h;rw[qB qO,qB qO]at h;simp only[qh]at h;rw[<- as3 a,<- as3 b,h]
theorem bt8(k:Nat)(h:k<=4000):numOf (Lib.itoa (k:Int))=k:=by
 unfold numOf
 cases hf:(List.range 4001).find? (fun(j:Nat)=>Lib.itoa (j:Int)==Lib.itoa (k:Int)) with
 | none=>have:=zW.1 hf k (zB.2 qO);simp at this
 | some j=>have:=List.find?_some hf;simp only[beq_iff_eq]at this;simp[bR8 this]
theorem aI9(h:∀k:Nat,k<=4000->Lib.itoa (k:Int)≠s):numOf s=0:=by
 unfold numOf;rw[zW.2]
 . rfl
 . intro k hk;simpa using h k (by have:=zB.1 hk;omega)
theorem bj1(s:qU):numOf s<=4000:=by
 unfold numOf
 cases hf:(List.range 4001).find? (fun(j:Nat)=>Lib.itoa (j:Int)==s) with
 | none=>simp
 | some j=>have:=zB.1 (List.mem_of_find?_eq_some hf);simp;omega
theorem ac7(l:qL):S0 l<=4000:=by
 unfold S0
 cases l with
 | nil=>simp
 | cons s r=>simpa using bj1 s
theorem bj2(ps:List qL):sumOf ps<=4000*ps.length:=by
 unfold sumOf
 induction ps with
 | nil=>simp
 | cons p ps ih=>have:=ac7 p;simp only[xy,List.sum_cons,ql];omega
theorem bt9(h:ps[k]?=some p):sumOf (ps.take (k+1))=sumOf (ps.take k)+S0 p:=by unfold sumOf;rw[qZ,h];simp
theorem ax5(ps:List qL):∀(k:Nat)(j:Nat)(t:qU),D7 ps k=some (j,t)->j<k/\(ps[j]?).bind List.head?=some t/\∀i,i<k->∀s,(ps[i]?).bind List.head?=some s->t<=s:=by
 intro k
 induction k with
 | zero=>intro j t h;cases h
 | succ k ih=>
  intro j t h;unfold D7 at h
  cases hk:(ps[k]?).bind List.head? with
  | none=>
   rw[hk]at h;obtain⟨h1,h2,h3⟩:=ih j t h;refine⟨qO,h2,fun i hi s hs=>?_⟩;rcases xo i k with h' | h'
   . exact h3 i h' s hs
   . obtain rfl:i=k:=qO;rw[hk]at hs;cases hs
  | some s=>
   rw[hk]at h;simp only at h
   cases hl:D7 ps k with
   | none=>
    rw[hl]at h;simp only[qe,Prod.mk.injEq]at h;obtain⟨rfl,rfl⟩:=h;refine⟨qO,hk,fun i hi s' hs=>?_⟩;rcases xo i k with h' | h'
    .
     exfalso;clear ih hk;have:∀m,D7 ps m=none->∀i,i<m->(ps[i]?).bind List.head?=none:=by
      intro m
      induction m with
      | zero=>intro _ i hi;omega
      | succ m ihm=>
       intro hm i hi;unfold D7 at hm
       cases hb:(ps[m]?).bind List.head? with
       | none=>
        rw[hb]at hm;rcases xo i m with h'' | h''
        . exact ihm hm i h''
        . obtain rfl:i=m:=qO;exact hb
       | some x=>
        rw[hb]at hm;simp only at hm;split at hm
        . cases hm
        . split at hm <;> cases hm
     rw[this k hl i h']at hs
     cases hs
    . obtain rfl:i=k:=qO;rw[hk]at hs;injection hs with hs;rw[hs];exact List.le_refl _
   | some p=>
    obtain⟨j',t'⟩:=p;rw[hl]at h;simp only at h;obtain⟨h1,h2,h3⟩:=ih j' t' hl;by_cases hlt:s<t'
    . rw[qF hlt]at h;simp only[qe,Prod.mk.injEq]at h;obtain⟨rfl,rfl⟩:=h;refine⟨qO,hk,fun i hi s' hs=>?_⟩;rcases xo i k with h' | h'
      . exact List.le_trans (List.le_of_lt hlt) (h3 i h' s' hs)
      . obtain rfl:i=k:=qO;rw[hk]at hs;injection hs with hs;rw[hs];exact List.le_refl _
    . rw[qB hlt]at h;simp only[qe,Prod.mk.injEq]at h;obtain⟨rfl,rfl⟩:=h;refine⟨qO,h2,fun i hi s' hs=>?_⟩;rcases xo i k with h' | h'
      . exact h3 i h' s' hs
      . obtain rfl:i=k:=qO;rw[hk]at hs;injection hs with hs;rw[<- hs];exact List.not_lt.1 hlt
theorem ba4(ps:List qL):∀m,D7 ps m=none->∀i,i<m->(ps[i]?).bind List.head?=none:=by
 intro m
 induction m with
 | zero=>intro _ i hi;omega
 | succ m ihm=>
  intro hm i hi;unfold D7 at hm
  cases hb:(ps[m]?).bind List.head? with
  | none=>
   rw[hb]at hm;rcases xo i m with h'' | h''
   . exact ihm hm i h''
   . obtain rfl:i=m:=qO;exact hb
  | some x=>
   rw[hb]at hm;simp only at hm;split at hm
   . cases hm
   . split at hm <;> cases hm
theorem least_some(h:least ps=some (k,s)):∃r,ps[k]?=some (s::r)/\∀p∈ps,∀x,p.head?=some x->s<=x:=by
 obtain⟨h1,h2,h3⟩:=ax5 ps _ k s h
 cases hp:ps[k]? with
 | none=>rw[hp]at h2;cases h2
 | some p=>
  rw[hp]at h2
  cases p with
  | nil=>cases h2
  | cons x r=>simp only[Option.bind_some,zo,qe]at h2;refine⟨r,by rw[h2],fun p hp x hx=>?_⟩;obtain⟨i,hi,rfl⟩:=List.mem_iff_getElem.1 hp;exact h3 i hi x (by rw[gEl hi];exact hx)
theorem av9(h:least ps=none):ps.flatten=[]:=by have:=ba4 ps _ h;rw[List.flatten_eq_nil_iff];intro p hp;obtain⟨i,hi,rfl⟩:=List.mem_iff_getElem.1 hp;have:=this i hi;rw[gEl hi]at this;simpa using this
theorem al9:∀{k:Nat}{s:qU}{r:qL},ps[k]?=some (s::r)->ps.flatten.Perm (s::(ps.modify k (List.drop 1)).flatten):=by
 induction ps with
 | nil=>intro k s r h;simp at h
 | cons p ps ih=>
  intro k s r h
  cases k with
  | zero=>simp only[qq,qe]at h;subst h;simp
  | succ k=>simp only[xO]at h;simp only[List.modify_succ_cons,xC];exact ((ih h).append_left p).trans List.perm_middle
theorem aa0(h:ps[k]?=some (s::r)):ps.flatten.length=(ps.modify k (List.drop 1)).flatten.length+1:=by have:=(al9 h).length_eq;simpa using this
theorem bj3:∀(n:Nat)(ps:List qL),ps.flatten.length=n->(V6 n ps).Perm ps.flatten:=by
 intro n
 induction n with
 | zero=>intro ps h;rw[qn h];exact List.Perm.nil
 | succ n ih=>
  intro ps h;unfold V6
  cases hl:least ps with
  | none=>rw[av9 hl]at h;cases h
  | some q=>obtain⟨k,s⟩:=q;obtain⟨r,hr,_⟩:=least_some hl;have hm:=aa0 hr;exact ((ih _ qO).cons s).trans (al9 hr).symm
theorem ba5(ps:List qL):(V7 ps).Perm ps.flatten:=bj3 _ _ rfl
structure SNode where
 kind:Int
 file:qU
 c:Cmd
 how:Int
 wide:Int
 ins:List (Int × Int)
def nouts(n:SNode):Int:=if n.kind=2 then n.wide else if n.kind=5 then 0 else 1
def cg4(c:Cmd):Bool:=decide (c.kind=0) && c.word.isEmpty && decide (c.n=0)
def A7(n:SNode):Int:=
 if n.kind=1\/n.kind=5 then (if isWord n.file then 0 else 1)
 else if n.kind=2 then (if n.wide<1\/5<n.wide then 3 else 0)
 else if n.kind=3 then chk n.c
 else if n.kind=4 then jchk n.how n.c
 else 4
def S1(k:Int)(m:Nat):Bool:=if k=1 then decide (m=0) else if k=4 then decide (1<=m/\m<=5) else decide (m=1)
def Z0(n:SNode):Bool:=
 (!decide (n.kind=1\/n.kind=5) && !n.file.isEmpty) || (!decide (n.kind=2) && !decide (n.wide=0)) || (!decide (n.kind=3\/n.kind=4) && !cg4 n.c) || (!decide (n.kind=4) && !decide (n.how=0))
def q9(n:SNode):Int:=if A7 n≠0 then A7 n else if !S1 n.kind n.ins.length || Z0 n then 4 else 0
def I1(ns:List SNode)(p:Int × Int):Bool:=decide (0<=p.1) && decide (p.1<ns.length) && decide (0<=p.2) && ((ns[p.1.toNat]?).map (fun n=>decide (p.2<nouts n))).getD false
def A4(ahead:List SNode):List (Int × Int)->List (Int × Int)->Int × List (Int × Int)
 | [],t=>(0,t)
 | p::r,t=>if I1 ahead p=false then (5,t) else if p∈t then (6,t) else A4 ahead r (t++[p])
def y9:List SNode->List SNode->List (Int × Int)->Int × List (Int × Int)
 | _,[],t=>(0,t)
 | ahead,n::r,t=>
  if q9 n≠0 then (q9 n,t)
  else if (A4 ahead n.ins t).1≠0 then A4 ahead n.ins t
  else if r.isEmpty≠decide (n.kind=5) then (4,t)
  else y9 (ahead++[n]) r (A4 ahead n.ins t).2
def N3(ns:List SNode):Int:=(ns.map nouts).sum
def gchk(ns:List SNode):Int:=
 if 60<ns.length then 2
 else if (y9 [] ns []).1≠0 then (y9 [] ns []).1
 else if ns.length=0\/((y9 [] ns []).2.length:Int)≠N3 ns then 4
 else 0
def aJ0(outs:List qL)(p:Int × Int):qU:=((outs[p.1.toNat]?).getD [])[p.2.toNat]?.getD []
def partOf(bs:qU)(p k:Nat):qU:=ended (((lines bs).take ((k+1)*(lines bs).length / p)).drop (k*(lines bs).length / p))
def j6(n:SNode)(fs:List SFile)(ins:qL):qL:=
 if n.kind=1 then [ended (lines (E0 fs n.file))]
 else if n.kind=2 then (List.range n.wide.toNat).map (partOf (ins.head?.getD []) n.wide.toNat)
 else if n.kind=3 then [ended (made n.c (lines (ins.head?.getD [])))]
 else if n.kind=4 then [ended (joined n.how n.c (ins.map lines))]
 else []
def bj4(fs:List SFile):List qL->List SNode->List qL
 | acc,[]=>acc
 | acc,n::r=>bj4 fs (acc++[j6 n fs (n.ins.map (aJ0 acc))]) r
def sunk(ns:List SNode)(fs:List SFile):qU:=((ns.getLast?).map (fun n=>aJ0 (bj4 fs [] ns) (n.ins.head?.getD (0,0)))).getD []
theorem Reads.shape{v:Value}(h:Reads w v n xs):∃ao cap,v=.slice ao n cap/\n<=cap/\cap<=maxLen:=by obtain⟨_,ao,cap,h1,h2,h3,_⟩:=h;exact⟨ao,cap,h1,h2,h3⟩
def o8(w:World)(v:Value)(fs:List SFile):Prop:=
 ∃ao cap,v=.slice ao fs.length cap/\fs.length<=cap/\cap<=maxLen /\
  (fs.length≠0->∃b off,ao=some ⟨b,off,none⟩/\∀j f,fs[j]?=some f->∃vb,w.cell? ⟨b,off+j*2,none⟩=some (.string ⟨f.name.toArray⟩)/\w.cell? ⟨b,off+j*2+1,none⟩=some vb/\Reads w vb f.b.length (f.b.map U))
theorem o8.below{v:Value}{fs:List SFile}(h:o8 w v fs)(hb:Bq w w'):o8 w' v fs:=by obtain⟨ao,cap,rfl,h2,h3,h4⟩:=h;refine⟨ao,cap,rfl,h2,h3,fun hn=>?_⟩;obtain⟨b,off,rfl,hc⟩:=h4 hn;refine⟨b,off,rfl,fun j c hj=>?_⟩;obtain⟨vb,a1,a2,a3⟩:=hc j c hj;exact⟨vb,qC hb a1,qC hb a2,a3.below hb⟩
theorem o8.shape{v:Value}{fs:List SFile}(h:o8 w v fs):∃ao cap,v=.slice ao fs.length cap/\fs.length<=cap/\cap<=maxLen:=by obtain⟨ao,cap,h1,h2,h3,_⟩:=h;exact⟨ao,cap,h1,h2,h3⟩
theorem o8.at{fs:List SFile}(h:o8 w (.slice ao n cap) fs){f:SFile}(hk:fs[k]?=some f):
 ∃b off ab cb,ao=some ⟨b,off,none⟩/\w.cell? ⟨b,off+k*2,none⟩=some (.string ⟨f.name.toArray⟩)/\w.cell? ⟨b,off+k*2+1,none⟩=some (.slice ab f.b.length cb)/\Reads w (.slice ab f.b.length cb) f.b.length (f.b.map U):=by obtain⟨ao',cap',e,_,_,h5⟩:=h;injection e with e1 e2 e3;subst e1;obtain⟨hkl,_⟩:=gSm hk;obtain⟨b,off,hao,hc⟩:=h5 qO;obtain⟨vb,a1,a2,a3⟩:=hc k f hk;obtain⟨ab,cb,rfl,_,_⟩:=a3.shape;exact⟨b,off,ab,cb,hao,a1,a2,a3⟩
theorem ac2{fs:List SFile}(h:o8 w (.slice ao n cap) fs):n<=cap/\cap<=9223372036854775807:=by obtain⟨_,c,e,h1,h2⟩:=h.shape;unfold maxLen at h2;injection e with e1 e2 e3;omega
def al0(f:SFile):Prop:=f.name.length<=9223372036854775807
def D5(w:World)(v:Value)(ps:List (Int × Int)):Prop:=
 ∃ao cap,v=.slice ao ps.length cap/\ps.length<=cap/\cap<=maxLen /\
  (ps.length≠0->∃b off,ao=some ⟨b,off,none⟩/\∀(j:Nat) p,ps[j]?=some p->w.cell? ⟨b,off+j*2,none⟩=some (.int .i64 p.1)/\w.cell? ⟨b,off+j*2+1,none⟩=some (.int .i64 p.2))
theorem D5.below{v:Value}{ps:List (Int × Int)}(h:D5 w v ps)(hb:Bq w w'):D5 w' v ps:=by obtain⟨ao,cap,rfl,h2,h3,h4⟩:=h;refine⟨ao,cap,rfl,h2,h3,fun hn=>?_⟩;obtain⟨b,off,rfl,hc⟩:=h4 hn;refine⟨b,off,rfl,fun j c hj=>?_⟩;obtain⟨a1,a2⟩:=hc j c hj;exact⟨qC hb a1,qC hb a2⟩
theorem D5.shape{v:Value}{ps:List (Int × Int)}(h:D5 w v ps):∃ao cap,v=.slice ao ps.length cap/\ps.length<=cap/\cap<=maxLen:=by obtain⟨ao,cap,h1,h2,h3,_⟩:=h;exact⟨ao,cap,h1,h2,h3⟩
theorem D5.at{ps:List (Int × Int)}(h:D5 w (.slice ao n cap) ps){p:Int × Int}(hk:ps[k]?=some p):
 ∃b off,ao=some ⟨b,off,none⟩/\w.cell? ⟨b,off+k*2,none⟩=some (.int .i64 p.1)/\w.cell? ⟨b,off+k*2+1,none⟩=some (.int .i64 p.2):=by obtain⟨ao',cap',e,_,_,h5⟩:=h;injection e with e1 e2 e3;subst e1;obtain⟨hkl,_⟩:=gSm hk;obtain⟨b,off,hao,hc⟩:=h5 qO;obtain⟨a1,a2⟩:=hc k p hk;exact⟨b,off,hao,a1,a2⟩
theorem S3{ps:List (Int × Int)}(h:D5 w (.slice ao n cap) ps):n<=cap/\cap<=9223372036854775807:=by obtain⟨_,c,e,h1,h2⟩:=h.shape;unfold maxLen at h2;injection e with e1 e2 e3;omega
def aw0(w:World)(b off:Nat)(n:SNode)(ai:Option Addr)(ci:Nat):Prop:=
 w.cell? ⟨b,off,none⟩=some (.int .i64 n.kind)/\w.cell? ⟨b,off+1,none⟩=some (.string ⟨n.file.toArray⟩)/\w.cell? ⟨b,off+2,none⟩=some (.int .i64 n.c.kind)/\w.cell? ⟨b,off+3,none⟩=some (.string ⟨n.c.word.toArray⟩) /\
 w.cell? ⟨b,off+4,none⟩=some (.int .i64 n.c.n)/\w.cell? ⟨b,off+5,none⟩=some (.int .i64 n.how)/\w.cell? ⟨b,off+6,none⟩=some (.int .i64 n.wide)/\w.cell? ⟨b,off+7,none⟩=some (.slice ai n.ins.length ci)
theorem aw0.below{off:Nat}{n:SNode}(h:aw0 w b off n ai ci)(hb:Bq w w'):aw0 w' b off n ai ci:=by
 obtain⟨a0,a1,a2,a3,a4,a5,a6,a7⟩:=h
 exact⟨qC hb a0,qC hb a1,qC hb a2,qC hb a3,
  qC hb a4,qC hb a5,qC hb a6,qC hb a7⟩
def y8(w:World)(v:Value)(ns:List SNode):Prop:=
 ∃ao cap,v=.slice ao ns.length cap/\ns.length<=cap/\cap<=maxLen /\
  (ns.length≠0->∃b off,ao=some ⟨b,off,none⟩/\∀(j:Nat) n,ns[j]?=some n->∃ai ci,aw0 w b (off+j*8) n ai ci/\D5 w (.slice ai n.ins.length ci) n.ins)
theorem y8.below{v:Value}{ns:List SNode}(h:y8 w v ns)(hb:Bq w w'):y8 w' v ns:=by obtain⟨ao,cap,rfl,h2,h3,h4⟩:=h;refine⟨ao,cap,rfl,h2,h3,fun hn=>?_⟩;obtain⟨b,off,rfl,hc⟩:=h4 hn;refine⟨b,off,rfl,fun j c hj=>?_⟩;obtain⟨ai,ci,a1,a2⟩:=hc j c hj;exact⟨ai,ci,a1.below hb,a2.below hb⟩
theorem y8.shape{v:Value}{ns:List SNode}(h:y8 w v ns):∃ao cap,v=.slice ao ns.length cap/\ns.length<=cap/\cap<=maxLen:=by obtain⟨ao,cap,h1,h2,h3,_⟩:=h;exact⟨ao,cap,h1,h2,h3⟩
theorem y8.at{ns:List SNode}(h:y8 w (.slice ao n cap) ns){x:SNode}(hk:ns[k]?=some x):
 ∃b off ai ci,ao=some ⟨b,off,none⟩/\aw0 w b (off+k*8) x ai ci/\D5 w (.slice ai x.ins.length ci) x.ins:=by obtain⟨ao',cap',e,_,_,h5⟩:=h;injection e with e1 e2 e3;subst e1;obtain⟨hkl,_⟩:=gSm hk;obtain⟨b,off,hao,hc⟩:=h5 qO;obtain⟨ai,ci,a1,a2⟩:=hc k x hk;exact⟨b,off,ai,ci,hao,a1,a2⟩
theorem M5{ns:List SNode}(h:y8 w (.slice ao n cap) ns):n<=cap/\cap<=9223372036854775807:=by obtain⟨_,c,e,h1,h2⟩:=h.shape;unfold maxLen at h2;injection e with e1 e2 e3;omega
theorem y8.take{ns:List SNode}(h:y8 w (.slice ao n cap) ns)(k:Nat)(hk:k<=ns.length):y8 w (.slice ao k cap) (ns.take k):=by
 obtain⟨ao',cap',e,h2,h3,h5⟩:=h;injection e with e1 e2 e3;subst e1;subst e3;have hl:(ns.take k).length=k:=by rw[qX];omega
 refine⟨ao,cap,by rw[hl],qO,h3,fun hn=>?_⟩;obtain⟨b,off,hao,hc⟩:=h5 qO;refine⟨b,off,hao,fun j x hj=>hc j x ?_⟩;obtain⟨hj1,_⟩:=gSm hj;rwa [List.getElem?_take_of_lt qO]at hj
def G8(n:SNode):Prop:=n.file.length<=9223372036854775807/\n.c.word.length<=9223372036854775807/\(∀p∈n.ins,(Lit.int .i64 p.1).wf=true/\(Lit.int .i64 p.2).wf=true)
structure SProc where
 got:qL
 pos:Int
 out:qL
 rd:Bool
 ov:Bool
structure SMach where
 ns:List SNode
 fs:List SFile
 pipes:List SPipe
 ps:List SProc
 sunk:qU
def I4:SMach:=⟨[],[],[],[],[]⟩
def b8(ns:List SNode):List (Int × Int):=(ns.map SNode.ins).flatten
def f9(ns:List SNode)(i:Nat):Nat:=(b8 (ns.take i)).length
def E9(ns:List SNode)(p:Int × Int):Nat:=(b8 ns).idxOf p
def I8(l:List Int):Int:=(l.find? (fun x=>x != 0)).getD 0
def J2(l:qL):Bool:=l.any (fun b=>decide (40000<b.length))
def C6(n:SNode)(p:SProc):Int:=
 if p.got.length≠n.ins.length\/(p.out.length:Int)≠nouts n then 4
 else if p.pos<0\/(n.ins.length:Int)<p.pos\/(p.ov=true/\p.rd=false)\/(p.rd=false/\0<n.ins.length/\p.pos=n.ins.length) then 3
 else if J2 p.got || J2 p.out then 2
 else 0
def E1:List SNode->List SProc->Int
 | n::ns,p::ps=>if C6 n p≠0 then C6 n p else E1 ns ps
 | _,_=>0
def mchk(M:SMach):Int:=
 if gchk M.ns≠0 then gchk M.ns
 else if fchk M.fs≠0 then fchk M.fs
 else if M.ps.length≠M.ns.length\/M.pipes.length≠(b8 M.ns).length then 4
 else if I8 (M.pipes.map pchk)≠0 then I8 (M.pipes.map pchk)
 else if E1 M.ns M.ps≠0 then E1 M.ns M.ps
 else if 40000<M.sunk.length then 2
 else 0
def SMach.setP(M:SMach)(i:Nat)(p:SProc):SMach:=⟨M.ns,M.fs,M.pipes,M.ps.set i p,M.sunk⟩
def SMach.setX(M:SMach)(q:Nat)(x:SPipe):SMach:=⟨M.ns,M.fs,M.pipes.set q x,M.ps,M.sunk⟩
def SMach.pipe(M:SMach)(q:Nat):SPipe:=(M.pipes[q]?).getD Y3
def D2(n:SNode)(fs:List SFile)(p:SProc):SProc:=⟨p.got.map (fun _=>[]),p.pos,List.zipWith (· ++ ·) p.out (j6 n fs p.got),true,p.ov⟩
def j3(b:qU):Nat:=(b.reverse.dropWhile (fun c=>c != 10)).length
def passes(n:SNode):Bool:=(decide (n.kind=4) && decide (n.how=1)) || (decide (n.kind=3) && Q3 n.c.kind)
def through(n:SNode)(whole:qU):qU:=if n.kind=4 then whole else ended (made n.c (lines whole))
def SProc.at(p:SProc):qU:=(p.got[p.pos.toNat]?).getD []
def SProc.setGot(p:SProc)(b:qU):SProc:=⟨p.got.set p.pos.toNat b,p.pos,p.out,p.rd,p.ov⟩
def SProc.setOut(p:SProc)(k:Nat)(b:qU):SProc:=⟨p.got,p.pos,p.out.set k b,p.rd,p.ov⟩
def E2(M:SMach)(i:Nat)(p:SProc):Nat->qL->SMach × Int
 | _,[]=>(M,8)
 | k,b::r=>
  if 0<(pwrite (M.pipe (E9 M.ns (i,k))) b).2.1 then
   ((M.setX (E9 M.ns (i,k)) (pwrite (M.pipe (E9 M.ns (i,k))) b).1).setP i (p.setOut k (b.drop (pwrite (M.pipe (E9 M.ns (i,k))) b).2.1)),0)
  else E2 M i p (k+1) r
def Z1(x:SPipe):SPipe:=⟨x.b,x.room,true,x.shut⟩
def H7(ns:List SNode)(i:Nat):Nat->List SPipe->List SPipe
 | 0,xs=>xs
 | k+1,xs=>(H7 ns i k xs).modify (E9 ns (i,k)) Z1
def endS(M:SMach)(i:Nat)(p:SProc):SMach:=⟨M.ns,M.fs,H7 M.ns i p.out.length M.pipes,M.ps.set i ⟨p.got,p.pos,p.out,p.rd,true⟩,M.sunk⟩
def F3(M:SMach)(i:Nat)(n:SNode)(q:Nat)(p:SProc):SMach:=
 if n.kind=5 then ⟨M.ns,M.fs,M.pipes,M.ps.set i (p.setGot []),M.sunk++p.at⟩
 else if passes n && p.at.contains 10 then M.setP i ((p.setOut 0 ((p.out[0]?).getD []++through n (p.at.take (j3 p.at)))).setGot (p.at.drop (j3 p.at)))
 else if n.kind=3/\n.c.kind=9/\n.c.n<=(p.at.count 10:Int) then (M.setX q ⟨[],(M.pipe q).room,(M.pipe q).closed,true⟩).setP i (D2 n M.fs p)
 else M.setP i p
def Y4(M:SMach)(i:Nat)(n:SNode)(q:Nat)(p:SProc):SMach × Int:=
 if (M.pipe q).closed && (M.pipe q).b.isEmpty then
  (if p.pos+1=p.got.length then (M.setP i (D2 n M.fs ⟨p.got,p.pos+1,p.out,p.rd,p.ov⟩),0) else (M.setP i ⟨p.got,p.pos+1,p.out,p.rd,p.ov⟩,0))
 else if (M.pipe q).b.isEmpty then (M,8)
 else (F3 (M.setX q ⟨(M.pipe q).b.drop 8,(M.pipe q).room,(M.pipe q).closed,(M.pipe q).shut⟩) i n q (p.setGot (p.at++(M.pipe q).b.take 8)),0)
def Y5(M:SMach)(i:Nat)(n:SNode)(p:SProc):SMach × Int:=
 if p.ov then (M,7)
 else if p.out.any (fun b=>!b.isEmpty) then E2 M i p 0 p.out
 else if p.rd then (endS M i p,0)
 else if p.got.isEmpty then (M.setP i (D2 n M.fs p),0)
 else Y4 M i n (f9 M.ns i+p.pos.toNat) p
def E3(M:SMach)(i:Nat):SMach × Int:=
 match M.ns[i]?,M.ps[i]? with
 | some n,some p=>Y5 M i n p
 | _,_=>(M,5)
def stepS(M:SMach)(i:Int):SMach × Int:=if i<0\/(M.ps.length:Int)<=i then (M,5) else E3 M i.toNat
def overS(M:SMach):Bool:=M.ps.all (fun p=>p.ov)
def j7(M:SMach):Nat->SMach × Bool
 | 0=>(M,false)
 | k+1=>((E3 (j7 M k).1 k).1,(j7 M k).2 || decide ((E3 (j7 M k).1 k).2=0))
def H4(M:SMach):SMach × Bool:=j7 M M.ps.length
def Fins:Nat->SMach->SMach × Int->Prop
 | 0,M,r=>(overS M=true/\r=(M,0))\/(overS M=false/\(H4 M).2=false/\r=(I4,8))
 | k+1,M,r=>overS M=false/\(H4 M).2=true/\Fins k (H4 M).1 r
def roomOf(ns:List SNode)(room:Int)(p:Int × Int):Int:=if ((ns[p.1.toNat]?).map SNode.kind)=some 2 then 0 else room
def ce3(n:SNode):SProc:=⟨List.replicate n.ins.length [],0,List.replicate (nouts n).toNat [],false,false⟩
def E4(ns:List SNode)(fs:List SFile)(room:Int):SMach:=⟨ns,fs,(b8 ns).map (fun p=>⟨[],roomOf ns room p,false,false⟩),ns.map ce3,[]⟩
def newS(ns:List SNode)(fs:List SFile)(room:Int):SMach × Int:=
 if gchk ns≠0 then (I4,gchk ns) else if fchk fs≠0 then (I4,fchk fs) else if room<1\/1000<room then (I4,3) else (E4 ns fs room,0)
end Go.Gs
namespace Go.Proofs.YtmejdflmcikkdaaGreatDoor
open Go.RowKit Go.Gs Tryz
variable {w w':World}{v:Value}{xs:List SPipe}{ao:Option Addr}{n cap k:Nat}{x:SPipe}{ps:List SProc}{p:SProc}{pss:qL}
def N6(w:World)(v:Value)(xs:List SPipe):Prop:=
 ∃ao cap,v=.slice ao xs.length cap/\xs.length<=cap/\cap<=maxLen /\
  (xs.length≠0->∃b off,ao=some ⟨b,off,none⟩/\∀(j:Nat)(x:SPipe),xs[j]?=some x->∃ab cb,w.cell? ⟨b,off+j*4,none⟩=some (.slice ab x.b.length cb)/\w.cell? ⟨b,off+j*4+1,none⟩=some (.int .i64 x.room) /\
   w.cell? ⟨b,off+j*4+2,none⟩=some (.bool x.closed)/\w.cell? ⟨b,off+j*4+3,none⟩=some (.bool x.shut)/\Reads w (.slice ab x.b.length cb) x.b.length (x.b.map U))
theorem N6.below(h:N6 w v xs)(hb:Bq w w'):N6 w' v xs:=by obtain⟨ao,cap,rfl,h2,h3,h4⟩:=h;refine⟨ao,cap,rfl,h2,h3,fun hn=>?_⟩;obtain⟨b,off,rfl,hc⟩:=h4 hn;refine⟨b,off,rfl,fun j c hj=>?_⟩;obtain⟨ab,cb,a0,a1,a2,a3,a4⟩:=hc j c hj;exact⟨ab,cb,qC hb a0,qC hb a1,qC hb a2,qC hb a3,a4.below hb⟩
theorem N6.shape(h:N6 w v xs):∃ao cap,v=.slice ao xs.length cap/\xs.length<=cap/\cap<=maxLen:=by obtain⟨ao,cap,h1,h2,h3,_⟩:=h;exact⟨ao,cap,h1,h2,h3⟩
theorem N6.at(h:N6 w (.slice ao n cap) xs)(hk:xs[k]?=some x):
 ∃b off ab cb,ao=some ⟨b,off,none⟩/\w.cell? ⟨b,off+k*4,none⟩=some (.slice ab x.b.length cb)/\w.cell? ⟨b,off+k*4+1,none⟩=some (.int .i64 x.room) /\
  w.cell? ⟨b,off+k*4+2,none⟩=some (.bool x.closed)/\w.cell? ⟨b,off+k*4+3,none⟩=some (.bool x.shut)/\Reads w (.slice ab x.b.length cb) x.b.length (x.b.map U):=by obtain⟨ao',cap',e,_,_,h5⟩:=h;injection e with e1 e2 e3;subst e1;obtain⟨hkl,_⟩:=gSm hk;obtain⟨b,off,hao,hc⟩:=h5 qO;obtain⟨ab,cb,a⟩:=hc k x hk;exact⟨b,off,ab,cb,hao,a⟩
theorem ah1(h:N6 w (.slice ao n cap) xs):n<=cap/\cap<=9223372036854775807:=by obtain⟨_,c,e,h1,h2⟩:=h.shape;unfold maxLen at h2;injection e with e1 e2 e3;omega
def J7(w:World)(v:Value)(ps:List SProc):Prop:=
 ∃ao cap,v=.slice ao ps.length cap/\ps.length<=cap/\cap<=maxLen /\
  (ps.length≠0->∃b off,ao=some ⟨b,off,none⟩/\∀(j:Nat)(p:SProc),ps[j]?=some p->∃ag cg ab cb,w.cell? ⟨b,off+j*5,none⟩=some (.slice ag p.got.length cg)/\w.cell? ⟨b,off+j*5+1,none⟩=some (.int .i64 p.pos) /\
   w.cell? ⟨b,off+j*5+2,none⟩=some (.slice ab p.out.length cb)/\w.cell? ⟨b,off+j*5+3,none⟩=some (.bool p.rd)/\w.cell? ⟨b,off+j*5+4,none⟩=some (.bool p.ov)/\RList w (.slice ag p.got.length cg) U p.got/\RList w (.slice ab p.out.length cb) U p.out)
theorem J7.below(h:J7 w v ps)(hb:Bq w w'):J7 w' v ps:=by obtain⟨ao,cap,rfl,h2,h3,h4⟩:=h;refine⟨ao,cap,rfl,h2,h3,fun hn=>?_⟩;obtain⟨b,off,rfl,hc⟩:=h4 hn;refine⟨b,off,rfl,fun j c hj=>?_⟩;obtain⟨ag,cg,ab,cb,a0,a1,a2,a3,a4,a5,a6⟩:=hc j c hj;exact⟨ag,cg,ab,cb,qC hb a0,qC hb a1,qC hb a2,qC hb a3,qC hb a4,a5.below hb,a6.below hb⟩
theorem J7.shape(h:J7 w v ps):∃ao cap,v=.slice ao ps.length cap/\ps.length<=cap/\cap<=maxLen:=by obtain⟨ao,cap,h1,h2,h3,_⟩:=h;exact⟨ao,cap,h1,h2,h3⟩
theorem J7.at(h:J7 w (.slice ao n cap) ps)(hk:ps[k]?=some p):
 ∃b off ag cg ab cb,ao=some ⟨b,off,none⟩/\w.cell? ⟨b,off+k*5,none⟩=some (.slice ag p.got.length cg)/\w.cell? ⟨b,off+k*5+1,none⟩=some (.int .i64 p.pos) /\
  w.cell? ⟨b,off+k*5+2,none⟩=some (.slice ab p.out.length cb)/\w.cell? ⟨b,off+k*5+3,none⟩=some (.bool p.rd)/\w.cell? ⟨b,off+k*5+4,none⟩=some (.bool p.ov)/\RList w (.slice ag p.got.length cg) U p.got/\RList w (.slice ab p.out.length cb) U p.out:=by obtain⟨ao',cap',e,_,_,h5⟩:=h;injection e with e1 e2 e3;subst e1;obtain⟨hkl,_⟩:=gSm hk;obtain⟨b,off,hao,hc⟩:=h5 qO;obtain⟨ag,cg,ab,cb,a⟩:=hc k p hk;exact⟨b,off,ag,cg,ab,cb,hao,a⟩
theorem U7(h:J7 w (.slice ao n cap) ps):n<=cap/\cap<=9223372036854775807:=by obtain⟨_,c,e,h1,h2⟩:=h.shape;unfold maxLen at h2;injection e with e1 e2 e3;omega
def machV(an af ax ap aS:Option Addr)(M:SMach)(cn cf cx cp cs:Nat):Value:=.agg #[.slice an M.ns.length cn,.slice af M.fs.length cf,.slice ax M.pipes.length cx,.slice ap M.ps.length cp,.slice aS M.sunk.length cs]
structure RMach (w:World) (an af ax ap aS:Option Addr) (cn cf cx cp cs:Nat) (M:SMach):Prop where
 nodes:y8 w (.slice an M.ns.length cn) M.ns
 files:o8 w (.slice af M.fs.length cf) M.fs
 pipes:N6 w (.slice ax M.pipes.length cx) M.pipes
 procs:J7 w (.slice ap M.ps.length cp) M.ps
 sunk:Reads w (.slice aS M.sunk.length cs) M.sunk.length (M.sunk.map U)
theorem RMach.below{an af ax ap aS:Option Addr}{cn cf cx cp cs:Nat}{M:SMach}(h:RMach w an af ax ap aS cn cf cx cp cs M)(hb:Bq w w'):RMach w' an af ax ap aS cn cf cx cp cs M:=
 ⟨h.nodes.below hb,h.files.below hb,h.pipes.below hb,h.procs.below hb,h.sunk.below hb⟩
structure FitsM (M:SMach):Prop where
 nodes:∀n∈M.ns,G8 n
 files:∀f∈M.fs,al0 f
 pos:∀p∈M.ps,(Lit.int .i64 p.pos).wf=true
theorem V8(h:RList w (.slice ao n cap) U pss):n=pss.length/\n<=cap/\cap<=9223372036854775807:=by obtain⟨_,c,e,h1,h2⟩:=h.shape;unfold maxLen at h2;injection e with e1 e2 e3;omega
end Go.Proofs.YtmejdflmcikkdaaGreatDoor
namespace Go.Gs
open Go.RowKit
variable {w w':World}{ao:Option Addr}{n cap B g k:Nat}{xs:List Value}{go:Option Nat}{e:TypeId}{v:Value}{how:Int}{c:Cmd}{s a b:qU}{p:Option qU}{f:SFile}{r l:List SFile}{H:Type}{P:Program}{ops:Array Oper}{rest:List Oper}{o:Oper}{Q:Exit->Act->World->Prop}
abbrev FRow:=SFile × (Option Addr × Nat × Nat)
def encF(x:FRow):List Value:=[.string ⟨x.1.name.toArray⟩,.slice x.2.1 x.2.2.1 x.2.2.2]
def E5(out:List FRow):List Value:=(out.map encF).flatten
theorem ba6(out:List FRow)(r:FRow):E5 (out++[r])=E5 out++encF r:=by simp[E5]
theorem aa1(out:List FRow)(r:FRow):E5 (r::out)=encF r++E5 out:=by simp[E5]
theorem al1(out:List FRow):(E5 out).length=out.length*2:=by
 induction out with
 | nil=>rfl
 | cons r l ih=>rw[aa1,qI,ih];simp[encF];omega
theorem ae2:∀(out:List FRow)(j:Nat)(r:FRow),out[j]?=some r->(E5 out)[j*2]?=some (.string ⟨r.1.name.toArray⟩)/\(E5 out)[j*2+1]?=some (.slice r.2.1 r.2.2.1 r.2.2.2)
 | [],j,r,h=>by simp at h
 | d::l,0,r,h=>by simp at h;subst h;simp[E5,encF]
 | d::l,j+1,r,h=>by
  have ih:=ae2 l j r (by simpa using h);rw[aa1];refine⟨?_,?_⟩
  . rw[qu (by simp[encF];omega),show (j+1)*2-(encF d).length=j*2 by simp[encF];omega];exact ih.1
  . rw[qu (by simp[encF];omega),show (j+1)*2+1-(encF d).length=j*2+1 by simp[encF];omega];exact ih.2
theorem bR9(r:FRow):∀u∈encF r,u.oneCell'=true:=by intro u hu;simp[encF]at hu;rcases hu with rfl | rfl <;> rfl
theorem ba7(out:List FRow):∀u∈E5 out,u.oneCell'=true:=by intro u hu;unfold E5 at hu;rw[zv]at hu;obtain⟨l,hl,hul⟩:=hu;obtain⟨r,_,rfl⟩:=xA.1 hl;exact bR9 r u hul
theorem ax6:∀(out:List FRow)(j:Nat)(r r':FRow),out[j]?=some r->r'.1.name=r.1.name->E5 (out.set j r')=(E5 out).set (j*2+1) (.slice r'.2.1 r'.2.2.1 r'.2.2.2)
 | [],j,r,r',h,_=>by simp at h
 | d::l,0,r,r',h,hn=>by simp at h;subst h;simp[E5,encF,hn]
 | d::l,j+1,r,r',h,hn=>by rw[List.set_cons_succ,aa1,aa1,ax6 l j r r' (by simpa using h) hn,zG _ _ (by simp[encF];omega),show (j+1)*2+1-(encF d).length=j*2+1 by simp[encF];omega]
theorem bv0{b off:Nat}:∀{rows:List FRow},(∀(j:Nat)(r:FRow),rows[j]?=some r->w.cell? ⟨b,off+j*2,none⟩=some (.string ⟨r.1.name.toArray⟩)/\w.cell? ⟨b,off+j*2+1,none⟩=some (.slice r.2.1 r.2.2.1 r.2.2.2))->∀j u,(E5 rows)[j]?=some u->w.cell? ⟨b,off+j,none⟩=some u:=by
 intro rows h j u hu;have hl:j<(E5 rows).length:=(gSm hu).1;rw[al1]at hl;have hq:rows[j / 2]?=some (rows[j / 2]'(by omega)):=gEl _;obtain⟨a1,a2⟩:=ae2 rows (j / 2) _ hq;obtain⟨b1,b2⟩:=h (j / 2) _ hq;rcases Nat.mod_two_eq_zero_or_one j with hm | hm
 . have e:j=j / 2*2:=qO;rw[<- e]at a1 b1;rw[a1]at hu;rw[b1,hu]
 . have e:j=j / 2*2+1:=qO;rw[<- e]at a2;rw[zK,<- e]at b2;rw[a2]at hu;rw[b2,hu]
def ax7(w:World)(go:Option Nat)(r:FRow):Prop:=r.2.2.1=r.1.b.length/\Reads w (.slice r.2.1 r.2.2.1 r.2.2.2) r.1.b.length (r.1.b.map U)/\(r.1.b.length≠0->∀a,r.2.1=some a->go≠some a.block)
theorem Q4{m:Nat}(h:Reads w (.slice ao n cap) m xs)(hk:∀a,ao=some a->w'.heap[a.block]?=w.heap[a.block]?):Reads w' (.slice ao n cap) m xs:=by obtain⟨h1,ao',cap',e,h2,h3,h4⟩:=h;injection e with e1 e2 e3;subst e1 e2 e3;refine⟨h1,ao,cap,rfl,h2,h3,fun hn=>?_⟩;obtain⟨b,off,rfl,hc⟩:=h4 hn;refine⟨b,off,rfl,fun j u hu=>?_⟩;have e:=hk _ rfl;have:=hc j u hu;simp only[World.cell?]at this ⊢;rw[e];exact this
theorem ax7.keep{r:FRow}(h:ax7 w go r)(hk:∀k,k<w.heap.size->go≠some k->w'.heap[k]?=w.heap[k]?):ax7 w' go r:=by
 refine⟨h.1,?_,h.2.2⟩;by_cases h0:r.1.b.length=0
 . obtain⟨h1,ao,cap,e,h2,h3,h4⟩:=h.2.1;exact⟨h1,ao,cap,e,h2,h3,fun hn=>absurd h0 hn⟩
 . refine Q4 h.2.1 (fun a ha=>hk _ ?_ (h.2.2 h0 a ha));obtain⟨h1,ao,cap,e,h2,h3,h4⟩:=h.2.1;obtain⟨b,off,rfl,hc⟩:=h4 h0;injection e with e1 e2 e3;rw[e1]at ha;injection ha with ha;subst ha;have hl:0<(r.1.b.map U).length:=by rw[h1];omega
   exact bLt w _ (hc 0 _ (gEl hl))
structure FO (w:World) (B:Nat) (e:TypeId) (v:Value) (rows:List FRow):Prop where
 own:w.ownsRow B e 2 v rows.length (E5 rows)
 good:∀r∈rows,ax7 w v.ownBlock r
theorem FO.files{rows:List FRow}(h:FO w B e v rows):o8 w v (rows.map (·.1)):=by
 have hl:(rows.map (·.1)).length=rows.length:=qS _;rcases h.own.2 with⟨rfl,h0⟩|⟨g,cap,cur,rfl,hb,hg,h1,h2,h3,h4⟩
 . exact⟨none,0,by rw[hl,h0],qO,by simp[maxLen],fun hn=>absurd (hl.trans h0) hn⟩
 .
  refine⟨_,cap,by rw[hl],qO,h2,fun _=>⟨g,0,rfl,fun j f hj=>?_⟩⟩;rw[qa]at hj
  cases hr:rows[j]? with
  | none=>rw[hr]at hj;cases hj
  | some r=>rw[hr]at hj;simp only[xG,qe]at hj;subst hj;obtain⟨a1,a2⟩:=ae2 rows j r hr;have hjl:j<rows.length:=(gSm hr).1;have c1:=h.own.cellAt (j*2) qO;have c2:=h.own.cellAt (j*2+1) qO;rw[a1]at c1;rw[a2]at c2;exact⟨_,by rw[qk];exact c1,by rw[qk];exact c2,(h.good r (mGt hr)).2.1⟩
theorem O6{size:Nat}(h:w.ownsRow B e size (.slice (some ⟨g,0,none⟩) n cap) n xs)(j:Nat)(hj:j<n*size)(u:Value):(w.setCell ⟨g,j,none⟩ u).ownsRow B e size (.slice (some ⟨g,0,none⟩) n cap) n (xs.set j u):=by
 obtain⟨h1,h2⟩:=h;refine⟨by rw[List.length_set];exact h1,?_⟩;rcases h2 with⟨h2,_⟩|⟨g',cap',cur,h2,hb,hg,h3,h4,h5,h6⟩
 . cases h2
 .
  injection h2 with e1 e2 e3;injection e1 with e1;injection e1 with e1;subst e1 e3;refine .inr ⟨g,cap,cur.setIfInBounds j u,rfl,hb,?_,h3,h4,by simpa using h5,?_⟩
  . rw[zH w g j cur e (0,0) u hg];exact setRow_heap w g cur _ e _ hg
  . rw[Array.toList_setIfInBounds,List.take_set,h6]
theorem FO.set{rows:List FRow}(h:FO w B e (.slice (some ⟨g,0,none⟩) n cap) rows){r r':FRow}(hk:rows[k]?=some r)(hn:r'.1.name=r.1.name)(hr:ax7 w (some g) r'):
 FO (w.setCell ⟨g,k*2+1,none⟩ (.slice r'.2.1 r'.2.2.1 r'.2.2.2)) B e (.slice (some ⟨g,0,none⟩) n cap) (rows.set k r'):=by
 have hkl:k<rows.length:=(gSm hk).1;have hnn:n=rows.length:=by
  rcases h.own.2 with⟨h2,_⟩|⟨_,_,_,h2,_⟩
  . cases h2
  . injection h2
 subst hnn;refine⟨?_,fun x hx=>?_⟩
 . rw[List.length_set,ax6 rows k r r' hk hn];exact O6 h.own _ qO _
 . have Be:∀q,q<w.heap.size->some g≠some q->(w.setCell ⟨g,k*2+1,none⟩ (.slice r'.2.1 r'.2.2.1 r'.2.2.2)).heap[q]?=w.heap[q]?:=fun q _ hq=>Below.heap_setCell _ _ _ _ (fun e=>hq (by rw[e]));rcases zS hx with hx | rfl
   . exact (h.good x hx).keep Be
   . exact hr.keep Be
def jOut(how:Int)(c:Cmd)(bss:qL):qU:=ended (joined how c (bss.map lines))
theorem M6(bss:qL):(ended (bss.map lines).flatten).length<=bss.flatten.length+bss.length:=by
 induction bss with
 | nil=>simp[ended]
 | cons b bss ih=>have:=E8 b;simp only[xy,xC,R9,qI,ql];omega
theorem F6(bss:qL):(bss.map lines).flatten.length<=bss.flatten.length:=by
 induction bss with
 | nil=>simp
 | cons b bss ih=>have:=E6 b;simp only[xy,xC,qI];omega
theorem aJ1(h:jchk how c=0):how=4->chk c=0:=by intro e;unfold jchk at h;rw[qB qO,qF e]at h;exact h
theorem bw4(l:qU)(c:UInt8):∀(acc m:Nat),Lib.parseUint10 acc l=.ok m->Lib.parseUint10 acc (l++[c])=Lib.parseUint10 m [c]:=by
 induction l with
 | nil=>intro acc m h;simp only[Lib.parseUint10]at h;injection h with h;rw[h];rfl
 | cons a l ih=>
  intro acc m h;rw[zY,Lib.parseUint10];rw[Lib.parseUint10]at h;split at h
  .
   rename_i h1;rw[qF h1];split at h
   . cases h
   . rename_i h2;rw[qB h2];split at h
     . cases h
     . rename_i h3;rw[qB h3];exact ih _ _ h
  . cases h
theorem aj7(d:Nat)(h:d<10):(UInt8.ofNat (48+d)).toNat=48+d:=by rw[UInt8.toNat_ofNat'];exact Nat.mod_eq_of_lt qO
theorem bd3:∀u:Nat,u<=250000000->Lib.parseUint10 0 (Lib.decDigits u)=.ok u:=by
 intro u
 induction u using Nat.strongRecOn with
 | ind u ih=>
  intro hu;rw[Lib.decDigits];split
  . rename_i h;simp only[Lib.parseUint10,aj7 u h];rw[qF qO,qB qO,qB qO];congr 1;omega
  . rename_i h;rw[bw4 _ _ _ _ (ih (u / 10) qO qO)];simp only[Lib.parseUint10,aj7 (u % 10) (Nat.mod_lt _ qO)];rw[qF qO,qB qO,qB qO];congr 1;omega
theorem bl7:∀u:Nat,∃c r,Lib.decDigits u=c::r/\48<=c.toNat/\c.toNat<=57:=by
 intro u
 induction u using Nat.strongRecOn with
 | ind u ih=>
  rw[Lib.decDigits];split
  . rename_i h;exact⟨_,[],rfl,by rw[aj7 u h];omega,by rw[aj7 u h];omega⟩
  . rename_i h;obtain⟨c,r,e,h1,h2⟩:=ih (u / 10) qO;exact⟨c,r++[UInt8.ofNat (48+u % 10)],by rw[e];rfl,h1,h2⟩
theorem az1(k:Nat)(h:k<=250000000):Lib.atoiAll (Lib.itoa (k:Int))=.ok (k:Int):=by
 have e:Lib.itoa (k:Int)=Lib.decDigits k:=by unfold Lib.itoa;rw[qB qO];simp
 obtain⟨c,r,e1,h1,h2⟩:=bl7 k;have hp:=bd3 k h;rw[e];rw[e1]at hp ⊢;rw[Lib.atoiAll_plain c r qO qO];unfold Lib.parseMag;rw[qB (by simp),hp];unfold Lib.signless;simp only;rw[qB qO]
theorem an1{n:Int}(h:Lib.atoiAll s=.ok n):numOf s=if 0<=n/\n<=4000/\Lib.itoa n=s then n.toNat else 0:=by
 split
 . rename_i hc;obtain⟨h0,h1,h2⟩:=hc;obtain⟨k,rfl⟩:=qm h0;rw[<- h2,qh,bt8 k qO]
 . rename_i hc;apply aI9;intro k hk e;rw[<- e,az1 k qO]at h;injection h with h;exact hc ⟨qO,qO,by rw[<- h];exact e⟩
theorem ah8(h:∀n,Lib.atoiAll s≠.ok n):numOf s=0:=by apply aI9;intro k hk e;exact h k (by rw[<- e];exact az1 k qO)
theorem aC6(h:fbad p f=0):isWord f.name=true/\f.b.length<=4000/\∀q,p=some q->q<f.name:=by
 unfold fbad at h;split at h
 . cases h
 .
  split at h
  . cases h
  . rename_i h1 h2;refine⟨by simpa using h1,qO,?_⟩;intro q hq;subst hq;simp only at h;split at h
    . assumption
    . cases h
theorem ah9:x9 p (f::r)=0 ↔ fbad p f=0/\x9 (some f.name) r=0:=by
 rw[x9];split
 . rename_i h;simp[h]
 . rename_i h;simp[h]
theorem aw2:∀{l:List SFile}{q:qU},x9 (some q) l=0->∀f∈l,q<f.name
 | [],_,_,f,hf=>by cases hf
 | g::r,q,h,f,hf=>by
  rw[ah9]at h;have h1:=(aC6 h.1).2.2 q rfl;rw[zD]at hf;rcases hf with rfl | hf
  . exact h1
  . exact List.lt_trans h1 (aw2 h.2 f hf)
theorem bT5(h:a<b):a≠b:=by rintro rfl;exact List.lt_irrefl a h
theorem an5(f:SFile)(r:List SFile)(n:qU):E0 (f::r) n=if f.name=n then f.b else E0 r n:=by
 unfold E0;by_cases h:f.name=n
 . simp[h]
 . rw[List.find?_cons_of_neg (by simp[h]),qB h]
theorem aE6:∀{l:List SFile}{n:qU},(∀f∈l,f.name≠n)->E0 l n=[]
 | [],_,_=>rfl
 | f::r,n,h=>by rw[an5,qB (h f (by simp)),aE6 (fun g hg=>h g (by simp[hg]))]
theorem bI4(h1:¬a<b)(h2:¬b=a):b<a:=by
 have h3:b<=a:=List.not_lt.1 h1;by_cases h:b<a
 . exact h
 . exact absurd (List.le_antisymm h3 (List.not_lt.1 h)) h2
theorem S7(h:fchk l=0):l.length<=12/\x9 none l=0:=by
 unfold fchk at h;split at h
 . cases h
 . exact⟨qO,h⟩
def whole(b:qU):Prop:=ended (lines b)=b
theorem U2:∀{l:List SFile}{p:Option qU},x9 p l=0->∀f∈l,isWord f.name=true/\f.b.length<=4000
 | [],_,_,f,hf=>by cases hf
 | g::r,p,h,f,hf=>by
  rw[ah9]at h;rw[zD]at hf;rcases hf with rfl | hf
  . exact⟨(aC6 h.1).1,(aC6 h.1).2.1⟩
  . exact U2 h.2 f hf
open Go.Maps
theorem C7(w:World){a:Act}
 (hg:o.guard=none) (m x v:Operand) (t:TypeId) (hop:o.op=Op.insert t m x v)
 (k e:TypeId) (K:Keyed P k) (ht:P.underlying t=some (.map k e)) (R:Value->Option (DataW H × List MemPlace)) (b n:Nat) (D:DataW H)
 (hm:a.eval m=.map (some b)) (Ab:w.ownsMap P k R b n D) (hn:n<maxLen) (key val:Value) (kl:Lit) (hx:a.eval x=key) (hv:a.eval v=val) (Bw:keyOf P k key=some kl)
 (d:DataW H) (ps:List MemPlace) (Du:R val=some (d,ps))
 (hK:∀w',w'.ownsMap P k R b (n+1) (D.put kl d)->w.grownBy w' (some b)->wpList P ops Q rest (a.put o.dst undef) w'):
 wpList P ops Q (o::rest) a w:=by refine wpList_plain hg fun K' hK'=>?_;obtain⟨w',Ae,r1,r2⟩:=Ab.update K ht hn Bw Du;unfold Oper.wp;simp[execOp,hop,hm,hx,hv,Ae,Result.andThen];exact hK' _ _ (hK w' r1 r2)
theorem ax9(w:World){a:Act}
 (hg:o.guard=none) (m x:Operand) (t:TypeId) (hop:o.op=Op.lookup t m x false)
 (k e:TypeId) (K:Keyed P k) (ht:P.underlying t=some (.map k e)) (he:P.underlying e=some .string) (hz:(zeroValue e).run P w=.ok (.string ⟨#[]⟩) w) (b n:Nat) (D:DataW H)
 (hm:a.eval m=.map (some b)) (Ab:w.ownsMap P k (plainElem P e) b n D) (key:Value) (kl:Lit) (hx:a.eval x=key) (Bw:keyOf P k key=some kl)
 (hK:∀s:ByteArray,D.atKey kl (.lit (.string []))=.lit (.string s.data.toList)->wpList P ops Q rest (a.put o.dst (.string s)) w):
 wpList P ops Q (o::rest) a w:=by refine wpList_plain hg fun K' hK'=>?_;obtain⟨v,ps,Ae,hv⟩:=Ab.lookup K ht hz (plainElem_string (H:=H) he (s:=⟨#[]⟩) (by unfold maxLen;decide)) Bw;obtain⟨s,rfl,hs,_⟩:=plainElem_string_inv he hv;unfold Oper.wp;simp[execOp,hop,hm,hx,Ae,Result.andThen];exact hK' _ _ (hK s (by simpa using (Prod.mk.inj hs).1))
end Go.Gs
namespace Go.Proofs.YtmejdflmcikkdaaGreatDoor
open Go.RowKit Go.Gs Go.ChangeShapes Go.WideShapes Go.ChangeAt Tryz
variable {P:Program} {H:Type} {enc:TypeId × Value->H} {W:World} {base:Nat} {held:Bool} {fuel:Nat} {t e q:TypeId} {x:DataW H × List MemPlace}
variable {a:Addr}
theorem ak8{b off j:Nat}:(⟨b,off,none⟩:Addr).add j=⟨b,off+j,none⟩:=by unfold Addr.add;split <;> simp_all
theorem ar7{α:Type}{len:Nat}{Y:Nat->α}{j:Nat}{p:α}(hj:((List.range len).map Y)[j]?=some p):j<len/\p=Y j:=by
 rw[qa]at hj
 cases hr:(List.range len)[j]? with
 | none=>rw[hr]at hj;cases hj
 | some i=>rw[hr]at hj;have h1:=(gSm hr).1;rw[List.length_range]at h1;rw[xd h1]at hr;injection hr with hr;simp only[xG,qe]at hj;exact⟨h1,by rw[<- hj,<- hr]⟩
theorem ar8{w:World}{k:Nat}{v:Value}(h:w.cell? (a.add k)=some v)(hk:k=0):a.spot=none:=by obtain⟨b,off,spot⟩:=a;subst hk;simpa[Addr.add]using World.cell?_spot h
end Go.Proofs.YtmejdflmcikkdaaGreatDoor
