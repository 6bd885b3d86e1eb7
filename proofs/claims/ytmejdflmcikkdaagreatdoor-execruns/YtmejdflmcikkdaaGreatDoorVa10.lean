/- What the developers' join's behind does, and more. -/
import Derived.Test.YtmejdflmcikkdaaGreatDoorVAb
import Derived.Lib.AppendStr
import Derived.Laws.BitsLemmas
import Derived.Deep.DeepFit
import Derived.Test.YtmejdflmcikkdaaGreatDoorVSh
import Derived.Test.YtmejdflmcikkdaaGreatDoorVa09
set_option linter.all false
set_option maxRecDepth 100000
set_option maxHeartbeats 64000000
namespace Go.Proofs.YtmejdflmcikkdaaGreatDoor
open Go.RowKit Go.Gs Tryz
variable {w w1 wr w3:World}{B G n k g cap:Nat}{t e:TypeId}{xs:List Value}{ps:List qL}{p ls0:qL}{v u:Value}{E l:qU}{o:Obj}
theorem V2(h:w.ownsRow B t 1 (.slice (some ⟨G,0,none⟩) n n) n xs):w.heap[G]?=some (.cells xs.toArray t (0,0))/\xs.length=n/\B<=G:=by
 obtain⟨h1,h2 | ⟨g,cap,cur,h2,h3,h4,h5,h6,h7,h8⟩⟩:=h
 . cases h2.1
 . injection h2 with e1 e2 e3;injection e1 with e1;injection e1 with e1;subst e1 e3;have hx:cur=xs.toArray:=by rw[<- h8,qP (by simp;omega)]
   exact⟨by rw[h4,hx],qO,h3⟩
theorem am9(h:w.heap[G]?=some (.cells xs.toArray t (0,0)))(hl:xs.length=n)(hB:B<=G)(hm:n<=250000000):w.ownsRow B t 1 (.slice (some ⟨G,0,none⟩) n n) n xs:=
 ⟨qO,.inr ⟨G,n,xs.toArray,rfl,hB,h,qA _,by unfold maxLen;omega,by simp[hl],by rw[zI,<- hl];simp⟩⟩
theorem below_grown(h:w.grownBy w1 none)(hB:B<=w.heap.size):Below B w w1:=⟨h.os,h.tape,h.output,h.size,fun k hk=>h.block k qO (by simp)⟩
theorem bT3(h:ps[k]?=some p):splice (((ps.take k).flatten).map S++List.replicate (ps.flatten.length-((ps.take k).flatten).length) (S [])) ((ps.take k).flatten).length (p.map S)=((ps.take (k+1)).flatten).map S++List.replicate (ps.flatten.length-((ps.take (k+1)).flatten).length) (S []):=by have h1:=av8 h;rw[aq2 h];generalize ((ps.take k).flatten)=A at *;unfold splice;rw[zd (by simp),qP (by simp),List.drop_append,qi (by simp)];simp only[qS,zR,List.drop_replicate,xF,qI,zQ];congr 3;omega
theorem bT4:(prog.info? 9).map (·.size)=some 1:=qQ
theorem aW0(v:Value)(ps:List qL)(w:World)(hp:RList w v S ps)(hn:ps.length<=1000)(hb:ps.flatten.length<=250000000):
 Calls prog 199 #[v] w fun e w'=>∃r,e=.returned r/\w'.ownsRow w.heap.size 9 1 r ps.flatten.length (ps.flatten.map S)/\Bq w w':=by
 obtain⟨i0,hi,hz0,hz1,hz2⟩:=info_parts J9;have Bv:=bl2 v ps w hp hn qO;obtain⟨ao,cap,rfl,hc1,hc2⟩:=hp.shape;have HP:=qH hp;obtain⟨N,hN⟩:=qE ps.length;have HN:=qH hN;have hN4:N<=1000:=qO;obtain⟨T,hT⟩:=qE ps.flatten.length;have HT:=qH hT;have hTb:T<=250000000:=qO;have hb2:i0.bytes*T<=281474976710656:=by rw[hz2];omega
 have hb3:T<=maxLen:=by unfold maxLen;omega
 rw[<- hT,<- hN]at Bv;rw[<- hT,<- hN];clear hN hp hn hc1 hc2 hT hb;go_enter func199,ntmps199;go_wp2_with (first|(go_at_call 234;refine Bv.mono ?_;rintro e w9⟨rfl,hw9⟩;obtain rfl:w=w9:=hw9.symm)|(at_make;refine wpList_make_full _ rfl (.tmp 8) (.tmp 8) 110 rfl w.heap.size 9 i0 (.string ⟨#[]⟩) 1 underlying110 hi hz0 hz1 .i64 .i64 _ _ T rfl rfl rfl rfl hb2 hb3 (qA _) ?_))
 intro w2 Cm Af;have HB2:Hid (Bq w w2):=below_grown Af (qA _);have HR2:Hid (w2.heap[w.heap.size]?=some (.cells ((((ps.take 0).flatten).map S++List.replicate (T-0) (S [])).toArray) 9 (0,0))):=by have:=(V2 Cm).1;rw[xK]at this;exact this
 clear Cm Af hw9 Bv;go_wp2_with fail
 go_loopw [4,13] (fun s i wr=>∃k m:Nat,∃ro,k<=N/\m<=T/\i=.int .i64 k/\s=.slice ro (T-m) (T-m)/\(m<T->ro=some ⟨w.heap.size,m,none⟩)/\Hid (m=((ps.take k).flatten).length)/\Hid (wr.heap[w.heap.size]?=some (.cells ((((ps.take k).flatten).map S++List.replicate (T-m) (S [])).toArray) 9 (0,0)))/\Hid (Bq w wr))
  (fun _ i _=>N-(intOf i).toNat)
 case atStart=>exact⟨0,0,_,qM _,qM _,rfl,rfl,fun _=>rfl,(show _=_ from by simp),HR2.o,HB2.o⟩
 case round=>
  obtain⟨k,m,ro,hk,hm,rfl,rfl,hro,hmk,Ap,Aa⟩:=hrel;by_cases hlt:k<N
  .
   obtain⟨p,hpk⟩:∃p,ps[k]?=some p:=⟨_,gEl (by have:=HN.o;omega)⟩;have Qs:m+p.length<=T:=by have h1:=av8 hpk;have h2:=hmk.out;have h3:=HT.o;omega
   have HS:=qH (show m+p.length=((ps.take (k+1)).flatten).length from by rw[aq2 hpk,qI,<- hmk.out]);have HSp:Hid _:=bT3 hpk;have HPr:Hid (RList wr (.slice ao N cap) S ps):=by rw[HN.o];exact HP.o.below Aa.o
   obtain⟨b,off,au,cu,rfl,Ac,hru⟩:=HPr.o.at hpk;obtain⟨L,hL⟩:=qE (((ps.take k).flatten).map S++List.replicate (T-m) (S []));have HL:=qH hL;have hLl:L.length=T:=by rw[hL,qI,qS,zz,<- hmk.out];omega
   obtain⟨cs,hcs⟩:=qE (p.map S);have hcl:cs.length=p.length:=by rw[hcs];simp
   have HC:=qH hcs;have HRU:Hid _:=hru;have Tn:wr.heap[w.heap.size]?=some (.cells L.toArray 9 (0,0)):=by rw[hL];exact Ap.o
   have HROW:Hid _:=Tn;clear hpk Ap hL hcs hru Tn;obtain⟨pl,hpl⟩:=qE p.length;have HPL:=qH hpl;rw[<- hpl]at Ac Qs hcl;clear hpl;go_wp2_with (refine wpList_copy_splice rfl (.tmp 18) (.tmp 19) 110 110 rfl 9 underlying110 bT4 ro au (T-m) (T-m) pl cu rfl rfl w.heap.size m L 9 HROW.o cs ?c1 ?c2 ?c3 ?c4 w.heap.size w Aa.o (qA _) ?_)
   case c1=>rw[hcl];exact (zA qO).symm
   case c2=>
    intro h0;refine⟨hro qO,?_⟩;obtain⟨_,ao',cap',e,_,_,h5⟩:=HRU.o;injection e with e1 e2 e3;obtain⟨b',off',e4,hc⟩:=h5 (by rw[<- HPL.o];omega);refine⟨⟨b',off',none⟩,e1.trans e4,fun j u hu=>?_⟩;have Ce:(⟨b',off',none⟩:Addr).add j=⟨b',off'+j,none⟩:=by unfold Addr.add;split <;> simp_all
    rw[Ce];exact hc j u (by rw[<- HC.o];exact hu)
   case c3=>omega
   case c4=>intro u hu;rw[HC.o]at hu;obtain⟨x,_,rfl⟩:=xA.1 hu;rfl
   intro w3 hr3 Bl;have HB3:=qH Bl
   have HR3:=qH (show w3.heap[w.heap.size]?=some (.cells ((((ps.take (k+1)).flatten).map S++List.replicate (T-(m+pl)) (S [])).toArray) 9 (0,0)) from by
    have e1:=hr3.out
    have e2:=HSp.o
    rw[<- hmk.out,<- HT.o,<- HL.o,<- HC.o,<- HS.o,<- HPL.o]at e2
    rw[e1,e2])
   clear hr3 Bl;go_wp2_with fail;go_roundw
   case rel=>exact⟨k+1,m+pl,_,qO,qO,by go_num,by rw[Nat.sub_add_eq],fun h=>by simp only[hro qO,Addr.add];simp;rw[qB qO];by_cases h0:pl=0 <;> simp[h0],(show _=_ from by rw[<- HS.o,HPL.o]),HR3.o,HB3.o⟩
   case measure=>simp[intOf];omega
  .
   have hkN:k=N:=qO;have HO:Hid (wr.ownsRow w.heap.size 9 1 (.slice (some ⟨w.heap.size,0,none⟩) T T) T (ps.flatten.map S)):=by
    have h1:=Ap.o;have h2:=hmk.out;rw[hkN,HN.o,qj]at h1 h2;have h3:T-m=0:=by have:=HT.o;omega
    rw[h3]at h1;simp only[List.replicate_zero,xz]at h1;exact am9 h1 (by rw[qS];exact HT.o.symm) (qA _) qO
   clear Ap hmk;go_wp2_with fail;go_ret;exact⟨_,rfl,HO.o,Aa.o⟩
open Go.Lib
theorem bV1:(prog.info? 5).map (fun i=>(i.zero,i.size,i.bytes))=some (some (.int .u8 0),1,1):=qQ
theorem aN1(ao:Option Addr)(cap:Nat)(w:World):
 Calls prog 151 #[.slice ao 0 cap] w fun e w'=>e=.returned (.slice none 0 0)/\w'=w:=by
 go_enter func151,ntmps151;go_wp2;go_loopw [3,8] (fun v3 i wr=>v3=.slice none 0 0/\i=.int .i64 0/\wr=w) (fun _ _ _=>0)
 case atStart=>exact⟨rfl,rfl,rfl⟩
 case round=>obtain⟨rfl,rfl,rfl⟩:=hrel;go_wp2;go_ret;exact⟨rfl,rfl⟩
theorem aH2(ls:qL)(k:Nat)(h:k<ls.length):ended (ls.take (k+1))=ended (ls.take k)++ls[k]++[10]:=by rw[List.take_succ_eq_append_getElem h,R9];simp[ended]
theorem aS7(ls:qL)(k:Nat):(ended (ls.take k)).length<=(ended ls).length:=by have:=Y6 ls 0 k;simpa using this
theorem cb5{w2:World}{v1 v2:Value}
 (Ab:wr.ownsRow w.heap.size 5 1 v n (E.map U)) (Aa:Bq w wr)
 (Ar:w1.ownsRow w.heap.size 5 1 v1 (n+l.length) (E.map U++l.map U)) (Dk:wr.grownBy w1 v.ownBlock)
 (Aq:w2.ownsRow w.heap.size 5 1 v2 (n+l.length+1) (E.map U++(l.map U++[.int .u8 10]))) (Af:(w1.alloc o).grownBy w2 v1.ownBlock):
 w2.ownsRow w.heap.size 5 1 v2 (n+l.length+1) ((E++l++[10]).map U)/\Bq w w2:=by have hb1:Bq w w1:=Aa.grown Dk (by have:=Aa.size;omega) (fun k hk=>(Ab.lt k hk).1);refine⟨by simpa[U]using Aq,?_⟩;exact (hb1.alloc (by have:=hb1.size;omega) o).grown Af (by have:=hb1.size;simp;omega) (fun k hk=>(Ar.lt k hk).1)
theorem by2(b off cap:Nat)(ls:qL)(w:World)(h0:0<ls.length)(hle:(ended ls).length<=250000000)
 (hc:∀j u,(ls.map S)[j]?=some u->w.cell? ⟨b,off+j,none⟩=some u):
 Calls prog 151 #[.slice (some ⟨b,off,none⟩) ls.length cap] w fun e w'=>∃r,e=.returned r /\
  w'.ownsRow w.heap.size 5 1 r (ended ls).length ((ended ls).map U)/\Bq w w':=by
 obtain⟨i0,hi,hz0,hz1,hz2⟩:=info_parts bV1;have hbB:b<w.heap.size:=bLt w _ (hc 0 (S ls[0]) (by simp[h0]));have hnl:ls.length<=250000000:=qc (ab4 ls) hle;generalize hn:ls.length=n at *;go_enter func151,ntmps151;go_wp2
 go_loopw [3,8] (fun v3 i wr=>∃(k m:Nat),k<=n/\i=.int .i64 k/\Hid (m=(ended (ls.take k)).length)/\wr.ownsRow w.heap.size 5 1 v3 m ((ended (ls.take k)).map U)/\Bq w wr)
  (fun _ i _=>n-(intOf i).toNat)
 case atStart=>exact⟨0,0,qM _,rfl,by simp[Hid,ended],by simpa[ended]using World.ownsRow_nil _ _ _ _,Below.refl _ _⟩
 case round=>
  obtain⟨k,m,hk,rfl,hm,Ab,Aa⟩:=hrel;by_cases hlt:k<n
  .
   have Ac:wr.cell? ⟨b,off+k,none⟩=some (.string ⟨(ls[k]'(by omega)).toArray⟩):=(Aa.cell (by exact hbB)).trans (hc k _ (by simp[S,hn,hlt]));have Hs:Hid _:=aH2 ls k qO;have Rh:=aS7 ls (k+1);have hlen:m+(ls[k]'(by omega)).length+1<=250000000:=by rw[Hs.o]at Rh;simp only[qI,ql,xI,hm.out]at *;omega
   clear Rh hc;generalize hl:ls[k]'(by omega)=l at *;have Hl:Hid _:=hl;clear hl;obtain⟨sx,hsx⟩:=qE (⟨l.toArray⟩:ByteArray);have hsz:sx.size=l.length:=by rw[hsx];simp[ByteArray.size]
   have hcs:strCells sx=l.map U:=by rw[hsx];simp[strCells,U]
   rw[<- hsx]at Ac;have Hsx:Hid _:=hsx;have Hsz:Hid _:=hsz;have Hcs:Hid _:=hcs;have hb63:m+sx.size+1<=250000000:=qO;clear hsx hsz hcs;generalize hE:(ended (ls.take k))=E at *;have HE:Hid _:=hE;clear hE;have hsz0:=Aa.size;go_wp2_with (first|(at_builtin;refine wpList_append_own_string _ rfl (.tmp 12) (.tmp 13) 28 9 rfl w.heap.size 5 i0 underlying28 underlying9 hi hz0 hz1 hz2 _ _ _ rfl Ab sx rfl (by unfold maxLen;omega) qO qO ?_;intro v1 w1 Ar Dk _)|(at_builtin;refine xB _ rfl (.tmp 15) (.tmp 16) 28 rfl w.heap.size 5 i0 (.int .u8 0) 1 1 underlying28 hi hz0 hz1 hz2 rfl (by decide) _ _ _ rfl (Ar.alloc _) ⟨w1.heap.size,0,none⟩ 1 1 [.int .u8 10] rfl rfl ?c1 ?c2 ?c3 ?c4 ?c5 ?_))
   case c1=>
    intro j u hj
    match j,hj with
    | 0,hj=>simp at hj;subst hj;simp[Addr.add]
   case c2=>intro u hu;simp at hu;subst hu;rfl
   case c3=>unfold maxLen;omega
   case c4=>omega
   case c5=>have:=Dk.size;simp;omega
   . intro v2 w2 Aq Af _;rw[Hcs.o,Hsz.o]at Ar Aq;have R:=cb5 Ab Aa Ar Dk Aq Af;rw[<- Hs.o]at R;have hm2:m+l.length+1=(ended (ls.take (k+1))).length:=by rw[Hs.o,hm.out];simp;omega
     have Hm2:Hid _:=hm2;clear hm2 Ar Aq Dk Af Ab Aa Ac;go_wp2;go_roundw
     case rel=>exact⟨k+1,m+l.length+1,qO,by go_num,Hm2,R.1,R.2⟩
     case measure=>simp[intOf];omega
  . have hkn:k=n:=qO;subst hkn;subst hn;rw[qj]at hm Ab;clear hc;go_wp2;go_ret;rw[hm.out]at Ab;exact⟨_,rfl,Ab,Aa⟩
theorem af2(v:Value)(ls:qL)(w:World)(hr:Reads w v ls.length (ls.map S))(hle:(ended ls).length<=250000000):
 Calls prog 151 #[v] w fun e w'=>∃r,e=.returned r /\
  w'.ownsRow w.heap.size 5 1 r (ended ls).length ((ended ls).map U)/\Bq w w':=by
 obtain⟨_,ao,cap,rfl,h2,h3,h4⟩:=hr;by_cases h0:ls.length=0
 . have hb:ls=[]:=qn h0;subst hb;refine (aN1 ao cap w).mono ?_;rintro e w'⟨rfl,rfl⟩;exact⟨_,rfl,by simpa[ended]using World.ownsRow_nil _ _ _ _,Below.refl _ _⟩
 . obtain⟨b,off,rfl,hc⟩:=h4 h0;exact by2 b off cap ls w qO hle hc
theorem bf2:(prog.info? 28).map (fun i=>(i.zero,i.size,i.bytes))=some (some (.slice none 0 0),1,24):=qQ
def ai4(ls0:qL)(p k:Nat):qU:=ended ((ls0.take ((k+1)*ls0.length / p)).drop (k*ls0.length / p))
theorem bf4(v:Value)(ls:qL)(w:World)(hr:Reads w v ls.length (ls.map S))(hle:(ended ls).length<=250000000):
 Calls prog 151 #[v] w fun e w'=>∃ao cap,e=.returned (.slice ao (ended ls).length cap) /\
  Reads w' (.slice ao (ended ls).length cap) (ended ls).length ((ended ls).map U)/\Bq w w'/\(∀q m c,Value.slice ao (ended ls).length cap=.slice (some q) m c->w.heap.size<=q.block):=by
 refine (af2 v ls w hr hle).mono ?_;rintro e w'⟨r,rfl,Ab,Aa⟩;have hrd:=Reads.of_owns Ab;obtain⟨_,ao,cap,rfl,_⟩:=id hrd;refine⟨ao,cap,rfl,hrd,Aa,fun q m c hq=>?_⟩;rcases Ab.2 with⟨e1,_⟩|⟨g,cap',cur,e1,hg,_⟩
 . rw[e1]at hq;injection hq with hq;cases hq
 . rw[e1]at hq;injection hq with hq;injection hq with hq;rw[<- hq];exact hg
theorem bo2(v:Value)(ls:qL)(w:World)(hr:Reads w v ls.length (ls.map S))(hle:(ended ls).length<=250000000):
 Calls prog 151 #[v] w.drew fun e w'=>∃ao cap,e=.returned (.slice ao (ended ls).length cap) /\
  Reads w' (.slice ao (ended ls).length cap) (ended ls).length ((ended ls).map U)/\Bq w w'/\(∀q m c,Value.slice ao (ended ls).length cap=.slice (some q) m c->w.heap.size<=q.block):=by refine (bf4 v ls w.drew (hr.below (Below.refl _ _).drew) hle).mono ?_;rintro e w'⟨ao,cap,rfl,h1,h2,h3⟩;exact⟨ao,cap,rfl,h1,⟨h2.os,h2.tape,h2.output,h2.size,h2.block⟩,h3⟩
def NewV(B:Nat)(u:Value):Prop:=∀q m c,u=.slice (some q) m c->B<=q.block
theorem aD3(h:w.ownsRow B e 1 v n xs):NewV B v:=by
 intro q m c hq;rcases h.2 with⟨e1,_⟩|⟨g,cap,cur,e1,hg,_⟩
 . rw[e1]at hq;injection hq with hq;cases hq
 . rw[e1]at hq;injection hq with hq;injection hq with hq;rw[<- hq];exact hg
theorem NewV.mono{B':Nat}(h:NewV B u)(hb:B'<=B):NewV B' u:=fun q m c e=>qc hb (h q m c e)
theorem bo3(B:Nat){c:Nat}:NewV B (.slice none n c):=fun q m c' e=>by injection e with e;cases e
def ao7(w:World)(ls0:qL)(p G g cap k:Nat)(wr:World):Prop:=
 ∃vs,wr.ownsRow w.heap.size 28 1 (.slice (some ⟨G,0,none⟩) p p) p vs/\(∀j,j<k->∃u,vs[j]?=some u/\Reads wr u (ai4 ls0 p j).length ((ai4 ls0 p j).map U)/\NewV w.heap.size u) /\
  (∀j,k<=j->j<p->vs[j]?=some (.slice none 0 0))/\Reads wr (.slice (some ⟨g,0,none⟩) ls0.length cap) ls0.length (ls0.map S)/\Bq w wr
theorem aN9{p:Nat}(h:ao7 w ls0 p G g cap k wr)(hk:k<p)(hb:Bq wr w3):
 w3.cell? ⟨G,k,none⟩=some (.slice none 0 0)/\w3.frozen? ⟨G,k,none⟩=false:=by obtain⟨vs,Ab,_,hz,_,_⟩:=h;have ho3:=A5 Ab hb;exact⟨(ho3.cellAt k qO).trans (hz k (qA _) hk),ho3.frozenAt k⟩
theorem by4{p:Nat}(h:ao7 w ls0 p G g cap k wr)(hk:k<p)(hb:Bq wr w3)(hu:Reads w3 u (ai4 ls0 p k).length ((ai4 ls0 p k).map U))(hn:NewV wr.heap.size u):
 ao7 w ls0 p G g cap (k+1) (w3.setCell ⟨G,k,none⟩ u):=by
 have hc3:=(aN9 h hk hb).1;obtain⟨vs,Ab,hd,hz,hl,Aa⟩:=h;have hvl:vs.length=p:=by simpa using Ab.1
 have ho3:=A5 Ab hb;have hst:=ho3.stored k u;have hGB:w.heap.size<=G:=(Ab.lt G rfl).1;have hnU:∀l:qU,Value.slice none 0 0∉l.map U:=by intro l hm;simp[U]at hm
 have hnS:∀l:qL,Value.slice none 0 0∉l.map S:=by intro l hm;simp[S]at hm
 refine⟨vs.set k u,hst.1,?_,?_,?_,?_⟩
 .
  intro j hj;by_cases e:j=k
  . subst e;exact⟨u,by simp[hvl,hk],hu.setCell hc3 _ (hnU _),hn.mono Aa.size⟩
  . obtain⟨x,hx,hrx,hnx⟩:=hd j qO;exact⟨x,by rw[xe (fun e'=>e e'.symm)];exact hx,(hrx.below hb).setCell hc3 _ (hnU _),hnx⟩
 . intro j h1 h2;rw[xe qO];exact hz j qO h2
 . exact (hl.below hb).setCell hc3 _ (hnS _)
 . exact (Aa.trans (hb.mono (by have:=Aa.size;omega))).setCell hGB _
theorem aX5(k n p:Nat)(h:k<p)(hn:0<n):k*n / p<n/\k*n / p<=(k+1)*n / p/\(k+1)*n / p<=n:=by
 have hp:0<p:=qO;refine⟨?_,?_,?_⟩
 . rw[Nat.div_lt_iff_lt_mul hp,Nat.mul_comm n p];exact Nat.mul_lt_mul_of_pos_right h hn
 . exact Nat.div_le_div_right (ze _ qO)
 . rw[Nat.div_le_iff_le_mul hp];have:(k+1)*n<=p*n:=ze _ qO;rw[Nat.mul_comm n p];omega
theorem V4(n:Int)(h:0<=n/\n<=2500000000):IntKind.i64.wrap n=n:=by rw[zx];omega
theorem ce0(k n p:Nat)(hk:k<p)(hp5:p<=5)(hn4:n<=75000000):
 0<=(k:Int)*(n:Int)/\(k:Int)*(n:Int)<=375000000/\0<=((k:Int)+1)*(n:Int)/\((k:Int)+1)*(n:Int)<=375000000 /\
 (k:Int)*(n:Int) / (p:Int)=((k*n / p:Nat):Int)/\((k:Int)+1)*(n:Int) / (p:Int)=(((k+1)*n / p:Nat):Int) /\
 ((k:Int)*(n:Int)).tdiv (p:Int)=((k*n / p:Nat):Int)/\(((k:Int)+1)*(n:Int)).tdiv (p:Int)=(((k+1)*n / p:Nat):Int):=by
 have e1:(k:Int)*(n:Int)=((k*n:Nat):Int):=(Int.natCast_mul k n).symm;have e2:((k:Int)+1)*(n:Int)=(((k+1)*n:Nat):Int):=by rw[Int.natCast_mul,Int.natCast_add];rfl
 have h1:k*n<=5*75000000:=Nat.mul_le_mul qO hn4;have h2:(k+1)*n<=5*75000000:=Nat.mul_le_mul qO hn4;have q1:((k*n:Nat):Int) / (p:Int)=((k*n / p:Nat):Int):=(Int.natCast_ediv _ _).symm;have q2:(((k+1)*n:Nat):Int) / (p:Int)=(((k+1)*n / p:Nat):Int):=(Int.natCast_ediv _ _).symm;rw[e1,e2];refine⟨qO,qO,qO,qO,q1,q2,?_,?_⟩
 . rw[Int.tdiv_eq_ediv_of_nonneg qO];exact q1
 . rw[Int.tdiv_eq_ediv_of_nonneg qO];exact q2
theorem bo4(g cap:Nat)(ls0:qL)(p:Nat)(w:World)(Ol:Reads w (.slice (some ⟨g,0,none⟩) ls0.length cap) ls0.length (ls0.map S))(hlc:ls0.length<=cap)(hcm:cap<=9223372036854775807)(hn0:0<ls0.length)(hn4:ls0.length<=75000000)(Cb:(ended ls0).length<=250000000)(hp1:1<=p)(hp5:p<=5):
 Calls prog 147 #[.slice (some ⟨g,0,none⟩) ls0.length cap,.int .i64 (p:Int)] w fun e w'=>∃r vs,e=.returned (.tuple #[r,.int .i64 0]) /\
  w'.ownsRow w.heap.size 28 1 r p vs/\(∀k,k<p->∃u,vs[k]?=some u/\Reads w' u (ai4 ls0 p k).length ((ai4 ls0 p k).map U)/\NewV w.heap.size u)/\Bq w w':=by
 obtain⟨i0,hi,hz0,hz1,hz2⟩:=info_parts bf2;have hb2:i0.bytes*p<=281474976710656:=by rw[hz2];omega
 have hb3:p<=maxLen:=by unfold maxLen;omega
 have hpb1:decide ((p:Int)<1)=false:=by simp;omega
 have hpb2:decide (5<(p:Int))=false:=by simp;omega
 have Om:=qH Cb;have On:Hid (∀k,ai4 ls0 p k=ended ((ls0.take ((k+1)*ls0.length / p)).drop (k*ls0.length / p))):=fun k=>rfl;go_enter func147,ntmps147;go_wp2_with (at_make;refine wpList_make_full _ rfl (.tmp 17) (.tmp 17) 62 rfl w.heap.size 28 i0 (.slice none 0 0) 1 underlying62 hi hz0 hz1 .i64 .i64 _ _ p rfl rfl rfl rfl hb2 hb3 (qA _) ?_)
 intro w2 Cm Af;have Dp:ao7 w ls0 p w.heap.size g cap 0 w2:=by have Oo:Bq w w2:=⟨Af.os,Af.tape,Af.output,Af.size,fun k hk=>Af.block k hk (by simp)⟩;refine⟨_,Cm,fun j hj=>absurd hj (zm _),fun j _ hj=>?_,Ol.below Oo,Oo⟩;rw[xK];simp[hj]
 clear Cm Af Ol;go_wp2_with fail;go_loopw [20] (fun i wr=>∃k:Nat,k<=p/\i=.int .i64 k/\ao7 w ls0 p w.heap.size g cap k wr) (fun i _=>p-(intOf i).toNat)
 case atStart=>exact⟨0,qM _,rfl,Dp⟩
 case round=>
  obtain⟨k,hk,rfl,hrel⟩:=hrel;by_cases hlt:k<p
  .
   have hlf:=aX5 k ls0.length p hlt hn0;have hP:=On.o k;have Qr:Reads wr (.slice (some ⟨g,k*ls0.length / p,none⟩) ((k+1)*ls0.length / p-k*ls0.length / p) (cap-k*ls0.length / p)) ((k+1)*ls0.length / p-k*ls0.length / p) (((ls0.take ((k+1)*ls0.length / p)).drop (k*ls0.length / p)).map S):=by obtain⟨_,_,_,_,hl,_⟩:=id hrel;have:=aB6 hl hlf.2.1 hlf.2.2;rwa [<- List.map_take,<- List.map_drop]at this
   have hel:=Y6 ls0 (k*ls0.length / p) ((k+1)*ls0.length / p);have Vr:((ls0.take ((k+1)*ls0.length / p)).drop (k*ls0.length / p)).length=(k+1)*ls0.length / p-k*ls0.length / p:=by simp;omega
   obtain⟨hm1,hm2,hm3,hm4,hq1,hq2,hq3,hq4⟩:=ce0 k ls0.length p hlt hp5 hn4;have hcz:=fun w3=>aN9 (w3:=w3) hrel hlt;have hst:=fun w3 u=>by4 (w3:=w3) (u:=u) hrel hlt;rw[hP]at hst;generalize hls:(ls0.take ((k+1)*ls0.length / p)).drop (k*ls0.length / p)=ls at *;generalize hlo:k*ls0.length / p=lo at *;generalize hhi:(k+1)*ls0.length / p=hi' at *;generalize hL:ls0.length=n at *;have Uc:Reads wr (.slice (some ⟨g,lo,none⟩) (hi'-lo) (cap-lo)) ls.length (ls.map S):=by rw[Vr];exact Qr
   have Hlsl:Hid _:=Vr;have Hsub:Hid _:=Uc;have Hcz:Hid _:=hcz;have Hst:Hid _:=hst;have hel':(ended ls).length<=250000000:=by have:=Om.o;omega
   obtain⟨hlf1,hlf2,hlf3⟩:=hlf;have hw1:IntKind.i64.wrap (lo:Int)=(lo:Int):=V4 _ qO;have hw2:IntKind.i64.wrap (hi':Int)=(hi':Int):=V4 _ qO;have hw3:IntKind.i64.wrap ((k:Int)*(n:Int))=(k:Int)*(n:Int):=V4 _ ⟨hm1,qO⟩;have hw4:IntKind.i64.wrap ((k:Int)+1)=(k:Int)+1:=V4 _ qO;have hw5:IntKind.i64.wrap (((k:Int)+1)*(n:Int))=((k:Int)+1)*(n:Int):=V4 _ ⟨hm3,qO⟩;have hcl:¬cap=lo:=qO;have hp0:¬p=0:=qO;clear Vr Qr Uc hcz hst hP On hel hls hlo hhi hL Om Dp hrel;go_wp2_with fail;go_region_with (go_at_call 151;refine (bo2 _ ls _ Hsub.o hel').mono ?_;rintro e w3⟨ao3,cap3,rfl,Oq,Bl,hn3⟩;have HN3:Hid _:=hn3;clear hn3;obtain⟨hc3,hf3⟩:=Hcz.o w3 Bl)
   have R:Hid _:=Hst.o w3 _ Bl Oq HN3.o;clear Oq Bl hc3 hf3 HN3;go_wp2;go_roundw
   case rel=>exact⟨k+1,qO,by go_num,R.o⟩
   case measure=>simp[intOf];omega
  . have hkp:k=p:=qO;subst hkp;clear On Om Dp;obtain⟨vs,r1,r2,r3,r4,r5⟩:=hrel;have R:Hid _:=And.intro r1 (And.intro r2 r5);clear r1 r2 r3 r4 r5;go_wp2;go_ret2;exact⟨_,vs,rfl,R.o.1,R.o.2.1,R.o.2.2⟩
def ar0(w:World)(p G:Nat)(wr:World):Prop:=
 ∃vs,wr.ownsRow w.heap.size 28 1 (.slice (some ⟨G,0,none⟩) p p) p vs/\(∀j,j<p->vs[j]?=some (.slice none 0 0))/\Bq w wr
theorem bo5{p:Nat}(h:ar0 w p G wr)(hk:k<p):
 wr.cell? ⟨G,k,none⟩=some (.slice none 0 0)/\wr.frozen? ⟨G,k,none⟩=false/\ar0 w p G (wr.drew.setCell ⟨G,k,none⟩ (.slice none 0 0)):=by
 obtain⟨vs,Ab,hz,Aa⟩:=h;have hvl:vs.length=p:=by simpa using Ab.1
 have hd:wr.drew.ownsRow w.heap.size 28 1 (.slice (some ⟨G,0,none⟩) p p) p vs:=A5 Ab (Below.refl _ _).drew;refine⟨(Ab.cellAt k qO).trans (hz k hk),Ab.frozenAt k,vs.set k (.slice none 0 0),(hd.stored k _).1,?_,Aa.drew.setCell (Ab.lt G rfl).1 _⟩;intro j hj;by_cases e:j=k
 . subst e;simp[hvl,hj]
 . rw[xe (fun e'=>e e'.symm)];exact hz j hj
theorem aO0(ao:Option Addr)(cap p:Nat)(w:World)(hp1:1<=p)(hp5:p<=5):
 Calls prog 147 #[.slice ao 0 cap,.int .i64 (p:Int)] w fun e w'=>∃r vs,e=.returned (.tuple #[r,.int .i64 0]) /\
  w'.ownsRow w.heap.size 28 1 r p vs/\(∀k,k<p->vs[k]?=some (.slice none 0 0))/\Bq w w':=by
 obtain⟨i0,hi,hz0,hz1,hz2⟩:=info_parts bf2;have hb2:i0.bytes*p<=281474976710656:=by rw[hz2];omega
 have hb3:p<=maxLen:=by unfold maxLen;omega
 have hpb1:decide ((p:Int)<1)=false:=by simp;omega
 have hpb2:decide (5<(p:Int))=false:=by simp;omega
 go_enter func147,ntmps147;go_wp2_with (at_make;refine wpList_make_full _ rfl (.tmp 17) (.tmp 17) 62 rfl _ 28 i0 (.slice none 0 0) 1 underlying62 hi hz0 hz1 .i64 .i64 _ _ p rfl rfl rfl rfl hb2 hb3 (qA _) ?_)
 intro w2 Cm Af;have Dp:ar0 w p w.heap.size w2:=by refine⟨_,Cm,fun j hj=>?_,⟨Af.os,Af.tape,Af.output,Af.size,fun k hk=>Af.block k hk (by simp)⟩⟩;rw[xK];simp[hj]
 clear Cm Af;go_wp2_with fail;go_loopw [20] (fun i wr=>∃k:Nat,k<=p/\i=.int .i64 k/\ar0 w p w.heap.size wr) (fun i _=>p-(intOf i).toNat)
 case atStart=>exact⟨0,qM _,rfl,Dp⟩
 case round=>
  obtain⟨k,hk,rfl,hrel⟩:=hrel;by_cases hlt:k<p
  .
   obtain⟨hc3,hf3,hst⟩:=bo5 hrel hlt;have Hst:Hid _:=hst;have hw4:IntKind.i64.wrap ((k:Int)+1)=(k:Int)+1:=V4 _ qO;have hw0:IntKind.i64.wrap 0=0:=by decide
   have hp0:¬p=0:=qO;clear hst hrel Dp;go_wp2_with fail;go_region_with (go_at_call 151;refine (aN1 _ _ _).mono ?_;rintro e w3⟨rfl,rfl⟩)
   clear hc3 hf3;go_wp2;go_roundw
   case rel=>exact⟨k+1,qO,by go_num,Hst.o⟩
   case measure=>simp[intOf];omega
  . have hkp:k=p:=qO;subst hkp;clear Dp;obtain⟨vs,r1,r2,r3⟩:=hrel;have R:Hid _:=And.intro r1 (And.intro r2 r3);clear r1 r2 r3;go_wp2;go_ret2;exact⟨_,vs,rfl,R.o.1,R.o.2.1,R.o.2.2⟩
theorem bL7(v:Value)(B:Nat)(ls0:qL)(p:Nat)(w:World)(Ab:w.ownsRow B 9 1 v ls0.length (ls0.map S))(hn4:ls0.length<=75000000)(Cb:(ended ls0).length<=250000000)(hp1:1<=p)(hp5:p<=5):
 Calls prog 147 #[v,.int .i64 (p:Int)] w fun e w'=>∃r vs,e=.returned (.tuple #[r,.int .i64 0]) /\
  w'.ownsRow w.heap.size 28 1 r p vs/\(∀k,k<p->∃u,vs[k]?=some u/\Reads w' u (ai4 ls0 p k).length ((ai4 ls0 p k).map U)/\NewV w.heap.size u)/\Bq w w':=by
 have hrd:=Reads.of_owns Ab;rcases Ab.2 with⟨rfl,h0⟩|⟨g,cap,cur,rfl,_,_,h1,h2,_,_⟩
 . have Dt:ls0=[]:=qn h0;subst Dt;refine (aO0 none 0 p w hp1 hp5).mono ?_;rintro e w'⟨r,vs,rfl,o1,o2,o3⟩;refine⟨r,vs,rfl,o1,fun k hk=>⟨_,o2 k hk,?_⟩,o3⟩;have:ai4 [] p k=[]:=by simp[ai4,ended]
   rw[this];exact⟨⟨rfl,none,0,rfl,qA _,by simp[maxLen],fun h=>absurd rfl h⟩,bo3 _⟩
 .
  by_cases hn0:0<ls0.length
  . exact bo4 g cap ls0 p w hrd h1 (by simpa[maxLen]using h2) hn0 hn4 Cb hp1 hp5
  . have Dt:ls0=[]:=qn qO;subst Dt;refine (aO0 _ cap p w hp1 hp5).mono ?_;rintro e w'⟨r,vs,rfl,o1,o2,o3⟩;refine⟨r,vs,rfl,o1,fun k hk=>⟨_,o2 k hk,?_⟩,o3⟩;have:ai4 [] p k=[]:=by simp[ai4,ended]
    rw[this];exact⟨⟨rfl,none,0,rfl,qA _,by simp[maxLen],fun h=>absurd rfl h⟩,bo3 _⟩
theorem aN2(l:qU):(0<=Lib.indexByte l 10 ↔ (10:UInt8)∈l):=by
 induction l with
 | nil=>simp[Lib.indexByte]
 | cons c l ih=>
  unfold Lib.indexByte;by_cases h:c=10
  . simp[h]
  .
   have hb:(c==10)=false:=by simp[h]
   have hg:=Lib.indexByte_ge l 10;have hm:(10:UInt8)∈c::l ↔ (10:UInt8)∈l:=by rw[zD];exact⟨fun k=>k.resolve_left (fun e=>h e.symm),Or.inr⟩
   rw[hm,<- ih,hb];by_cases hi:Lib.indexByte l 10 = -1
   . simp[hi]
   . have hb2:(Lib.indexByte l 10 == -1)=false:=by simp[hi]
     rw[hb2];simp only[zy,if_false];omega
end Go.Proofs.YtmejdflmcikkdaaGreatDoor
