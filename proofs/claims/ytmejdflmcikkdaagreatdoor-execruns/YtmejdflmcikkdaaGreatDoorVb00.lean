/- Machines, plainly, and more. -/
import Derived.Test.YtmejdflmcikkdaaGreatDoorVAb
import Derived.Test.YtmejdflmcikkdaaGreatDoorVa41
import Derived.Test.YtmejdflmcikkdaaGreatDoorVa44
import Derived.Test.YtmejdflmcikkdaaGreatDoorVa35
set_option linter.all false
set_option maxRecDepth 100000
set_option maxHeartbeats 64000000
namespace Go.Gs
open Go.RowKit
variable {m a j:Nat}{p':SProc}{r:SMach × Int}
def m9(M:SMach):List Int->SMach × List Int
 | []=>(M,[])
 | i::r=>((m9 (stepS M i).1 r).1,(stepS M i).2::(m9 (stepS M i).1 r).2)
theorem ci1:∀x,Acc r4 x:=(Prod.lex ⟨_,Nat.lt_wfRel.wf⟩ (Prod.lex ⟨_,Nat.lt_wfRel.wf⟩ (Prod.lex ⟨_,Nat.lt_wfRel.wf⟩ ⟨_,Nat.lt_wfRel.wf⟩))).wf.apply
theorem RL.len:∀{l l':List T4},RL l l'->l.length=l'.length
 | a::l,b::l',h=>by
  rcases h with⟨_,h⟩|⟨_,h⟩
  . simp[h]
  . simp[RL.len h]
 | [],[],h=>h.elim
 | [],_::_,h=>h.elim
 | _::_,[],h=>h.elim
theorem RL.acc_cons(hm:∀l:List T4,l.length=m->Acc RL l):∀(b:T4),Acc r4 b->∀l:List T4,l.length=m->Acc RL (b::l):=by
 intro b hb
 induction hb with
 | intro b _ ihb=>
  intro l hl;have hacc:=hm l hl
  induction hacc with
  | intro l _ ihl=>
   refine Acc.intro _ (fun y hy=>?_)
   cases y with
   | nil=>exact hy.elim
   | cons a l2=>
    rcases hy with⟨h,hl2⟩|⟨rfl,h⟩
    . exact ihb a h l2 (hl2.trans hl)
    . exact ihl l2 h (h.len.trans hl)
theorem RL.acc:∀(m:Nat)(l:List T4),l.length=m->Acc RL l
 | 0,l,h=>by obtain rfl:=qz.1 h;exact Acc.intro _ (fun y hy=>by cases y <;> exact hy.elim)
 | m+1,[],h=>by simp at h
 | m+1,b::l,h=>RL.acc_cons (RL.acc m) b (ci1 b) l (by simpa using h)
theorem aq0{M:SMach}(h:Shape M):∀k,Shape (j7 M k).1/\(j7 M k).1.ns=M.ns/\(j7 M k).1.fs=M.fs /\
 (((j7 M k).2=false/\(j7 M k).1=M/\∀a,a<k->(E3 M a).2≠0)\/((j7 M k).2=true/\Relation.TransGen RL (mu (j7 M k).1) (mu M)))
 | 0=>⟨h,rfl,rfl,Or.inl ⟨rfl,rfl,fun a ha=>absurd ha qO⟩⟩
 | k+1=>by
  obtain⟨h1,h2,h3,h4⟩:=aq0 h k
  obtain⟨s1,s2,s3,s4⟩:=aK2 h1 k
  refine⟨s1,s2.trans h2,s3.trans h3,?_⟩
  unfold j7
  simp only
  rcases h4 with⟨a1,a2,a3⟩|⟨a1,a2⟩
  .
   rcases s4 with⟨b1,b2⟩|⟨b1,b2⟩
   . left
     refine⟨by rw[a1,qG b1];rfl,b2.trans a2,fun a ha=>?_⟩
     by_cases e:a=k
     . subst e;rw[a2]at b1;exact b1
     . exact a3 a qO
   . right
     refine⟨by rw[a1,qV b1];rfl,?_⟩
     have b3:=Relation.TransGen.single b2
     rw[a2]at b3 ⊢
     exact b3
  . right
    rcases s4 with⟨b1,b2⟩|⟨b1,b2⟩
    . refine⟨by rw[a1];rfl,?_⟩
      rw[b2];exact a2
    . exact⟨by rw[a1];rfl,Relation.TransGen.trans (Relation.TransGen.single b2) a2⟩
theorem cg2{M:SMach}(h:Shape M):∃k r,Fins k M r:=by
 have key:∀l:List T4,Acc (Relation.TransGen RL) l->∀M:SMach,Shape M->mu M=l->∃k r,Fins k M r:=by
  intro l hl
  induction hl with
  | intro l _ ih=>
   intro M h hM
   cases ho:overS M with
   | true=>exact⟨0,_,Or.inl ⟨ho,rfl⟩⟩
   | false=>
    obtain⟨h1,h2,h3,h4⟩:=aq0 h M.ps.length;rcases h4 with⟨a1,a2,a3⟩|⟨a1,a2⟩
    . exact⟨0,_,Or.inr ⟨ho,a1,rfl⟩⟩
    . obtain⟨k,r,hk⟩:=ih (mu (H4 M).1) (hM ▸ a2) (H4 M).1 h1 rfl;exact⟨k+1,r,ho,a1,hk⟩
 exact key (mu M) ((RL.acc (mu M).length (mu M) rfl).transGen) M h rfl
def J6(M M':SMach)(a:Nat):Prop:=M'.ps.length=M.ps.length/\∀i,i≠a->M'.ps[i]?=M.ps[i]?
theorem J6.refl(M:SMach)(a:Nat):J6 M M a:=⟨rfl,fun _ _=>rfl⟩
theorem J6.set{M M':SMach}(h:M'.ps=M.ps.set a p'):J6 M M' a:=by refine⟨by rw[h,List.length_set],fun i hi=>?_⟩;rw[h,xE,qB (fun e=>hi e.symm)]
theorem aB3(M:SMach)(a:Nat)(p:SProc):∀(r:qL)(k:Nat),J6 M (E2 M a p k r).1 a
 | [],k=>J6.refl _ _
 | b::r,k=>by
  unfold E2;split
  . exact J6.set rfl
  . exact aB3 M a p r (k+1)
theorem aq1(M:SMach)(a:Nat):J6 M (E3 M a).1 a:=by
 unfold E3
 cases M.ns[a]? with
 | none=>exact J6.refl _ _
 | some n=>
  cases M.ps[a]? with
  | none=>exact J6.refl _ _
  | some p=>
   simp only;unfold Y5;split
   . exact J6.refl _ _
   .
    split
    . exact aB3 _ _ _ _ _
    .
     split
     . exact J6.set rfl
     .
      split
      . exact J6.set rfl
      .
       unfold Y4;split
       . split <;> exact J6.set rfl
       . split
         . exact J6.refl _ _
         . unfold F3;split
           . exact J6.set rfl
           . split
             . exact J6.set rfl
             . split <;> exact J6.set rfl
theorem ar9(M:SMach):∀k,(j7 M k).1.ps.length=M.ps.length
 | 0=>rfl
 | k+1=>(aq1 (j7 M k).1 k).1.trans (ar9 M k)
def Z9(M:SMach)(i:Nat):Bool:=((M.ps[i]?).map SProc.ov).getD true
def av5(M:SMach):Nat->Nat
 | 0=>0
 | k+1=>av5 M k+if Z9 (E3 (j7 M k).1 k).1 k then 0 else 1
def av6(M:SMach):Nat->Nat
 | 0=>0
 | k+1=>av6 M k+if (E3 (j7 M k).1 k).2=0 then 1 else 0
theorem bs4(M:SMach):∀k,(j7 M k).2=true ↔ av6 M k≠0
 | 0=>by simp[j7,av6]
 | k+1=>by
  have ih:=bs4 M k;unfold j7 av6;simp only[Bool.or_eq_true,zh];rw[ih];by_cases h:(E3 (j7 M k).1 k).2=0
  . rw[qF h];simp[h]
  . rw[qB h];simp[h]
theorem bs5(M:SMach):∀k,av5 M k=0 ↔ ∀i,i<k->Z9 (j7 M k).1 i=true
 | 0=>by simp[av5]
 | k+1=>by
  have ih:=bs5 M k;have hk:∀i,i<k->Z9 (j7 M (k+1)).1 i=Z9 (j7 M k).1 i:=fun i hi=>by unfold Z9;rw[show (j7 M (k+1)).1=(E3 (j7 M k).1 k).1 from rfl,(aq1 (j7 M k).1 k).2 i qO]
  have e:Z9 (j7 M (k+1)).1 k=Z9 (E3 (j7 M k).1 k).1 k:=rfl;unfold av5;constructor
  .
   intro h i hi;by_cases hik:i=k
   . subst hik;rw[e];by_cases ho:Z9 (E3 (j7 M i).1 i).1 i=true
     . exact ho
     . rw[qB ho]at h;omega
   . rw[hk i qO];exact ih.1 qO i qO
  . intro h;have h1:=ih.2 (fun i hi=>by rw[<- hk i hi];exact h i qO);have h2:=h k qO;rw[e]at h2;rw[h1,qF h2]
theorem bZ2(M:SMach):overS M=true ↔ ∀i,i<M.ps.length->Z9 M i=true:=by
 unfold overS Z9;rw[zw];constructor
 . intro h i hi;rw[gEl hi];exact h _ (zZ hi)
 . intro h p hp;obtain⟨i,hi⟩:=qw hp;have:=h i (gSm hi).1;rw[hi]at this;exact this
theorem bQ1(M:SMach):av5 M M.ps.length=0 ↔ overS (H4 M).1=true:=by rw[bs5,bZ2,show (H4 M).1.ps.length=M.ps.length from ar9 M _];rfl
theorem bQ2{M:SMach}(hS:Shape M)(h:Fins j M r):
 (av5 M M.ps.length=0->r=((H4 M).1,0))/\(av5 M M.ps.length≠0->av6 M M.ps.length=0->r=(I4,8))/\(av5 M M.ps.length≠0->av6 M M.ps.length≠0->∃j',j=j'+1/\Fins j' (H4 M).1 r):=by
 obtain⟨_,_,_,hc⟩:=aq0 hS M.ps.length;have hw:=bs4 M M.ps.length;have hl:=bQ1 M;have Ff:overS M=true->(H4 M).1=M/\(H4 M).2=false:=fun ho=>by
  have key:∀a,(E3 M a).2≠0/\(E3 M a).1=M:=fun a=>by
   unfold E3
   cases hn:M.ns[a]? with
   | none=>exact⟨by simp,rfl⟩
   | some n=>
    cases hp:M.ps[a]? with
    | none=>exact⟨by simp,rfl⟩
    | some p=>
     simp only;have hp1:p.ov=true:=by unfold overS at ho;exact zw.1 ho p (mGt hp)
     unfold Y5;rw[qF hp1];exact⟨by simp,rfl⟩
  have k2:∀k,j7 M k=(M,false):=fun k=>by
   induction k with
   | zero=>rfl
   | succ k ih=>unfold j7;rw[ih];simp only[Bool.false_or];rw[(key k).2,qG (key k).1]
  have:=k2 M.ps.length;unfold H4;rw[this];exact⟨rfl,rfl⟩
 refine⟨fun h0=>?_,fun h0 h1=>?_,fun h0 h1=>?_⟩
 .
  have ho:=hl.1 h0
  cases j with
  | zero=>
   rcases h with⟨a1,a2⟩|⟨a1,a2,a3⟩
   . rw[a2,(Ff a1).1]
   .
    rcases hc with⟨b1,b2,_⟩|⟨b1,_⟩
    . have b2':(H4 M).1=M:=b2;rw[b2',a1]at ho
      cases ho
    . have b1':(H4 M).2=true:=b1;rw[a2]at b1'
      cases b1'
  | succ j=>
   obtain⟨a1,a2,a3⟩:=h
   cases j with
   | zero=>
    rcases a3 with⟨c1,c2⟩|⟨c1,_⟩
    . exact c2
    . rw[ho]at c1;cases c1
   | succ j=>
    rw[a3.1]at ho
    cases ho
 .
  have hr:(H4 M).2=false:=by
   cases e:(H4 M).2 with
   | false=>rfl
   | true=>exact absurd h1 (hw.1 e)
  cases j with
  | zero=>
   rcases h with⟨a1,a2⟩|⟨a1,a2,a3⟩
   . exact absurd (hl.2 (by rw[(Ff a1).1];exact a1)) h0
   . exact a3
  | succ j=>
   rw[h.2.1]at hr
   cases hr
 .
  have hr:(H4 M).2=true:=hw.2 h1
  cases j with
  | zero=>
   rcases h with⟨a1,a2⟩|⟨a1,a2,a3⟩
   . exact absurd (hl.2 (by rw[(Ff a1).1];exact a1)) h0
   . rw[a2]at hr;cases hr
  | succ j=>exact⟨j,rfl,h.2.2⟩
end Go.Gs
namespace Go.Proofs.YtmejdflmcikkdaaGreatDoor
open Go.RowKit Go.Gs Go.Maps Tryz
variable {ns:List SNode}{fs:List SFile}{w w' V:World}{D r a n b k cap j c:Nat}{O:qW}{l es ks:List Int}{e i:Int}{t:TypeId}{ao:Option Addr}{xs:List Value}{u v:Value}{A:World->qW->Prop}{d:RD}{ad:Addr}{M':SMach}
theorem bs6(ns:List SNode)(fs:List SFile)(D r:Nat)(O:qW)(M:SMach)(j:Nat)(w:World)(hA:RefA NoG w D r O M)(hI:TotI ns fs M)(Ad:∀n∈ns,G8 n)(hE:∀W,Below D w W->q8 W/\W.ShapedOpen prog)(hj:j<M.ps.length):
 Calls prog 15 #[.pointer (some ⟨r,0,none⟩),.int .i64 j] w fun e w'=>e=.returned (.int .i64 (E3 M j).2)/\∃O',RefA NoG w' D r O' (E3 M j).1/\KeptO O O' w w':=by
 obtain⟨d,h1,h2,rfl⟩:=hA;obtain⟨hS,ht,hns,hfs⟩:=hI;obtain⟨p,hp⟩:∃p,d.M.ps[j]?=some p:=⟨_,gEl hj⟩;obtain⟨n,hn⟩:∃n,d.M.ns[j]?=some n:=⟨_,gEl (by rw[<- hS.plen];exact hj)⟩;have e:E3 d.M j=Y5 d.M j n p:=by unfold E3;rw[hn,hp]
 rw[e];exact aG7 D r O d j n p w h1 h2 hS hn hp (by rw[hns];exact Ad) (aQ1 ht) hE
theorem TotI.step{M:SMach}(h:TotI ns fs M)(a:Nat):TotI ns fs (E3 M a).1:=(aA7 ns fs).step M a h
theorem ba0{M:SMach}(h:RefA NoG w D r O M)(h0:0<M.ps.length):∃g c,w.cell? ⟨r,3,none⟩=some (.slice (some ⟨g,0,none⟩) M.ps.length c)/\M.ps.length<=c/\∀i,i<M.ps.length->w.cell? ⟨g,i*5+4,none⟩=some (.bool (Z9 M i)):=by obtain⟨d,h1,h2,rfl⟩:=h;obtain⟨p0,hp0⟩:∃p,d.M.ps[0]?=some p:=⟨_,gEl h0⟩;obtain⟨g,c,s,hv,hc1,_,_,_,_,_⟩:=h1.procAt hp0;obtain⟨_,_,_,x3,_,_⟩:=i8 (h1.boxM h2);refine⟨g,c,by rw[<- hv];exact x3,hc1,fun i hi=>?_⟩;obtain⟨p,hp⟩:∃p,d.M.ps[i]?=some p:=⟨_,gEl hi⟩;obtain⟨g',c',s',hv',_,_,_,_,_,_,_,_,_,q4,_⟩:=h1.procAt hp;rw[hv]at hv';injection hv' with e1 _ _;injection e1 with e1;injection e1 with e1;subst e1;unfold Z9;rw[hp];exact q4
def EndA(ns:List SNode)(fs:List SFile)(D r:Nat)(w0 w:World)(M:SMach):Prop:=(∃O,RefA NoG w D r O M)/\TotI ns fs M/\Below D w0 w
theorem EndA.step{w0:World}{M:SMach}(h:EndA ns fs D r w0 w M)(ha:a<M.ps.length)(Ad:∀n∈ns,G8 n)(hE:∀W,Below D w0 W->q8 W/\W.ShapedOpen prog):
 Calls prog 15 #[.pointer (some ⟨r,0,none⟩),.int .i64 a] w fun e w'=>e=.returned (.int .i64 (E3 M a).2)/\EndA ns fs D r w0 w' (E3 M a).1:=by obtain⟨⟨O,hA⟩,hI,hb⟩:=h;refine qD (bs6 ns fs D r O M a w hA hI Ad (fun W hW=>hE W (hb.trans hW)) ha) ?_;rintro e w'⟨rfl,O',h1,h2⟩;obtain⟨d,k1,_,_⟩:=hA;exact⟨rfl,⟨O',h1⟩,hI.step a,hb.trans (h2.below k1.lo k1.le)⟩
theorem bQ3(ns:List SNode)(fs:List SFile)(D r:Nat)(M0:SMach)(w0 w:World)(h:EndA ns fs D r w0 w M0)(Ad:∀n∈ns,G8 n)(hE:∀W,Below D w0 W->q8 W/\W.ShapedOpen prog)(j0:Nat)(res:SMach × Int)(Ed:Fins j0 M0 res):
 Calls prog 19 #[.pointer (some ⟨r,0,none⟩)] w fun e w'=>e=.returned (.int .i64 res.2)/\(res.2=0->EndA ns fs D r w0 w' res.1)/\Below D w0 w':=by
 have hlen:∀V M,EndA ns fs D r w0 V M->0<M.ps.length/\M.ps.length<=60:=fun V M hh=>by have hS:=hh.2.1.1;have h1:=hS.g.le60;have h2:=hS.g.pos;rw[hS.plen];exact⟨h2,h1⟩
 obtain⟨f,hf⟩:=br4 (fun k V=>∃M,EndA ns fs D r w0 V M/\Fins k M res);have HLN:=qH hlen;have Ft:Hid (∀(V:World)(M:SMach)(a:Nat),EndA ns fs D r w0 V M->a<M.ps.length->Calls prog 15 #[.pointer (some ⟨r,0,none⟩),.int .i64 a] V fun e w'=>e=.returned (.int .i64 (E3 M a).2)/\EndA ns fs D r w0 w' (E3 M a).1):=(show ∀(V:World)(M:SMach)(a:Nat),_ from fun V M a hh ha=>hh.step ha Ad hE);have H0:=qH (show ∃M j,EndA ns fs D r w0 w M/\Fins j M res from ⟨M0,j0,h,Ed⟩);have HF:=qH hf;clear h Ad hE Ed hlen hf;go_enter func19,ntmps19;go_wp2_with fail;go_loopw [] (fun wr=>Hid (∃M j,EndA ns fs D r w0 wr M/\Fins j M res)) (fun wr=>f wr)
 case atStart=>exact H0
 case round=>
  obtain⟨M1,j1,hE1,hF1⟩:=hrel.out;obtain⟨⟨M,hEA,hFi⟩,_⟩:=HF.o wr j1 ⟨M1,hE1,hF1⟩;obtain⟨hl0,hl60⟩:=HLN.o wr M hEA;obtain⟨⟨O,hA⟩,hI,hb⟩:=id hEA;obtain⟨g,c,x3,hc,_⟩:=ba0 hA hl0;have HEA:=qH hEA;have HFI:=qH hFi;obtain⟨NP,hNP⟩:=qE M.ps.length;have HNP:=qH hNP;rw[<- hNP]at x3 hc hl0 hl60;obtain⟨wo,hwo⟩:=qE wr;subst hwo;clear hrel hE1 hF1 hEA hFi hA hI hb hNP H0;go_wp2_with fail;clear x3;go_loopw [3,4,11] (fun l g z wx=>∃k LK WK:Nat,k<=NP/\z=.int .i64 k/\l=.int .i64 LK/\g=.int .i64 WK/\LK<=k/\WK<=k/\Hid (LK=av5 M k/\WK=av6 M k)/\Hid (EndA ns fs D r w0 wx (j7 M k).1)) (fun _ _ z _=>NP-(intOf z).toNat)
  case atStart=>exact⟨0,0,0,qM _,rfl,rfl,rfl,qA _,qA _,⟨rfl,rfl⟩,HEA⟩
  case round=>
   obtain⟨k,LK,WK,hk,rfl,rfl,rfl,hLK,hWK,hLW,hE1⟩:=hrel;by_cases hlt:k<NP
   .
    have HST:Hid _:=Ft.o wr (j7 M k).1 k hE1.out (by rw[ar9,<- HNP.o];exact hlt);obtain⟨SE,hSE⟩:=qE ((E3 (j7 M k).1 k).2);have HSE:=qH hSE;rw[<- hSE]at HST;clear hSE;go_wp2_with fail;refine qD HST.o ?_;rintro e w3⟨rfl,h3⟩;have HE3:=qH h3;obtain⟨⟨O3,hA3⟩,_,_⟩:=id h3;have hl3:(E3 (j7 M k).1 k).1.ps.length=NP:=by rw[(aq1 (j7 M k).1 k).1,ar9,HNP.o]
    obtain⟨g3,c3,x3,hc3,ho3⟩:=ba0 hA3 (by rw[hl3];exact hl0);have y3:=ho3 k (by rw[hl3];exact hlt);rw[hl3]at x3 hc3;obtain⟨OV,hOV⟩:=qE (Z9 (E3 (j7 M k).1 k).1 k);rw[<- hOV]at y3;have HL1:=qH (show LK+(if OV=true then 0 else 1)=av5 M (k+1) by rw[hLW.out.1,hOV];rfl);have HW1:=qH (show WK+(if SE=0 then 1 else 0)=av6 M (k+1) by rw[hLW.out.2,HSE.o];rfl);clear h3 hA3 hl3 ho3 HST hLW hE1 hOV HSE;by_cases hS:SE=0;have HW2:=qH (show WK+1=av6 M (k+1) by rw[<- HW1.o,qF hS]);subst hS;rotate_left
    have HW2:=qH (show WK=av6 M (k+1) by rw[<- HW1.o,qB hS];rfl);have hSb:(SE==0)=false:=by rw[qg];exact hS
    rotate_left
    all_goals
     clear HW1
     cases OV
    all_goals
     simp only[zy,if_true,if_false]at HL1;go_wp2_with fail;go_roundw
     case rel=>first
      | exact⟨k+1,LK+1,WK+1,qO,by go_num,by go_num,by go_num,qO,qO,⟨HL1.o,HW2.o⟩,HE3⟩
      | exact⟨k+1,LK+0,WK+1,qO,by go_num,by go_num,by go_num,qO,qO,⟨HL1.o,HW2.o⟩,HE3⟩
      | exact⟨k+1,LK+1,WK,qO,by go_num,by go_num,by go_num,qO,qO,⟨HL1.o,HW2.o⟩,HE3⟩
      | exact⟨k+1,LK+0,WK,qO,by go_num,by go_num,by go_num,qO,qO,⟨HL1.o,HW2.o⟩,HE3⟩
     case measure=>simp[intOf];omega
   .
    obtain rfl:NP=k:=qO;have hec:=bQ2 HEA.o.2.1.1 HFI.o;rw[<- HNP.o,<- hLW.out.1,<- hLW.out.2]at hec;have hrs:(H4 M).1=(j7 M NP).1:=by rw[HNP.o];rfl
    rw[hrs]at hec;obtain⟨e1,e2,e3⟩:=hec;have hB9:Below D w0 wr:=hE1.out.2.2;by_cases hL:LK=0
    . have hr:=e1 hL;have HP:Hid (res.2=0/\(res.2=0->EndA ns fs D r w0 wr res.1)/\Below D w0 wr):=⟨by rw[hr],fun _=>by rw[hr];exact hE1.out,hB9⟩;subst hL;clear e1 e2 e3 hr hB9 hrs hLW;go_wp2_with fail;(try simp only[Exit.inBlock,Exit.then])
      go_ret;exact⟨by rw[HP.o.1];rfl,HP.o.2.1,HP.o.2.2⟩
    .
     have hLb:(LK==0)=false:=by rw[qg];exact hL
     have hLc:((LK:Int)==0)=false:=by rw[qg];omega
     have hLd:¬(LK:Int)=0:=qO;by_cases hW:WK=0
     . have hr:=e2 hL hW;have HP:Hid (res.2=8/\(res.2=0->EndA ns fs D r w0 wr res.1)/\Below D w0 wr):=⟨by rw[hr],fun e=>by rw[hr]at e;exact absurd e (by decide),hB9⟩;subst hW;clear e1 e2 e3 hr hB9 hrs hLW;go_wp2_with fail;(try simp only[Exit.inBlock,Exit.then])
       go_ret;exact⟨by rw[HP.o.1];rfl,HP.o.2.1,HP.o.2.2⟩
     .
      have hWb:(WK==0)=false:=by rw[qg];exact hW
      have hWc:((WK:Int)==0)=false:=by rw[qg];omega
      have hWd:¬(WK:Int)=0:=qO;obtain⟨j',hj,hF'⟩:=e3 hL hW
      have HP:Hid ((∃M j,EndA ns fs D r w0 wr M/\Fins j M res)/\f wr<f wo):=⟨⟨_,j',hE1.out,hF'⟩,by
       have:=(HF.o wr j' ⟨_,hE1.out,hF'⟩).2
       omega⟩
      clear e1 e2 e3 hB9 hrs hLW hj hF' HEA HFI;go_wp2_with fail;go_roundw
      case rel=>exact HP.o.1
      case measure=>exact HP.o.2
def Zs(l:List Int):List Value:=l.map (fun e=>Value.int .i64 e)
def al7(b:Nat)(l:List Int)(w:World)(O:qW):Prop:=w.heap[b]?=some (.cells (Zs l).toArray 32 (0,0))/\O b=some .aux
theorem bs7(b:Nat)(l:List Int):al2 (al7 b l):=by intro w w' O O' h hk hO;exact⟨(hk b h.2).trans h.1,(hO b _ h.2).trans h.2⟩
theorem bD0{M:SMach}(h:o6 NoG w D r M):o6 (al7 w.heap.size (List.replicate n 0)) (w.alloc (.cells (Zs (List.replicate n 0)).toArray 32)) D r M/\D<=w.heap.size:=by
 obtain⟨O,d,h1,hM⟩:=h;have hb:Bq w (w.alloc (.cells (Zs (List.replicate n 0)).toArray 32)):=(Below.refl _ w).alloc (qA _) _
 have h2:RMem (w.alloc (.cells (Zs (List.replicate n 0)).toArray 32)) D r (fun k=>if k=w.heap.size then some .aux else O k) _ d:=RMem.grow h1 hb (fun k hk=>qB qO) (fun g o hg hge=>by
  by_cases e:g=w.heap.size
  . simp[e]
  . simp only[qB e]at hg
    exact absurd (h1.lo g o hg).2 qO)
 exact⟨⟨_,d,RMem.auxTo h2 (bb4 _ _ _ _ (bs7 _ _)) ⟨(h2.part .aux).1,qJ _ _,by simp⟩,hM⟩,RMem.le h1⟩
theorem bZ3{M:SMach}(h:o6 (al7 b l) w D r M):o6 (al7 b (l.set k e)) (w.setCell ⟨b,k,none⟩ (.int .i64 e)) D r M/\D<=b:=by
 obtain⟨O,d,h1,hM⟩:=h;obtain⟨⟨a1,a2,bm,nm,a3,a4,a5⟩,s1,s2⟩:=h1.part .aux;have hD:=(h1.lo _ _ s2).1;have hrb:r≠b:=fun e=>by have:=h1.box.2;rw[e,s2]at this;exact absurd this (by simp)
 have hbm:bm≠b:=fun e=>by obtain⟨_,⟨es,clock,m1,_⟩,_⟩:=a4;rw[e,s1]at m1;exact absurd m1 (by simp)
 have hI:∀g,d.vI.ownBlock=some g->g≠b:=fun g hg e=>by
  rcases a1.2 with⟨q,_⟩|⟨g',cap,cur,q1,_,q3,_⟩
  . rw[q]at hg;simp[Value.ownBlock]at hg
  . rw[q1]at hg;simp[Value.ownBlock]at hg;rw[hg,e,s1]at q3;exact absurd q3 (by simp)
 have Ap:(w.setCell ⟨b,k,none⟩ (.int .i64 e)).heap[b]?=some (.cells (Zs (l.set k e)).toArray 32 (0,0)):=by rw[zH w b k _ _ (0,0) _ s1,setRow_heap w b _ _ _ _ s1];unfold Zs;rw[List.map_set];simp
 have h2:=RMem.swap (A':=fun w O=>AuxF D d.vI d.vM d.M.ns w O/\al7 b (l.set k e) w O) h1 (w':=w.setCell ⟨b,k,none⟩ (.int .i64 e)) (O':=O) d.vI ⟨_,a3⟩ rfl rfl rfl (by simp) (fun j _ _ hj=>Below.heap_setCell _ _ _ _ (fun q=>hj (by rw[q];exact s2))) (fun _ _=>rfl) (fun g o hg=>by have:=h1.lo g o hg;exact⟨this.1,by simpa using this.2⟩)
  ((Below.heap_setCell _ _ _ _ hrb).trans h1.box.1) (bb4 _ _ _ _ (bs7 _ _)) ⟨⟨j5 a1 (fun g hg=>Below.heap_setCell _ _ _ _ (hI g hg)),a2,bm,nm,a3,a4.keep (Below.heap_setCell _ _ _ _ hbm),a5⟩,Ap,s2⟩
 exact⟨⟨O,d,h2,hM⟩,hD⟩
theorem o6.said{M:SMach}(h:o6 (al7 b l) w D r M):w.heap[b]?=some (.cells (Zs l).toArray 32 (0,0))/\D<=b/\b≠r:=by obtain⟨O,d,h1,hM⟩:=h;obtain⟨_,s1,s2⟩:=h1.part .aux;exact⟨s1,(h1.lo _ _ s2).1,fun e=>by have:=h1.box.2;rw[<- e,s2]at this;exact absurd this (by simp)⟩
theorem bQ4(h:w.heap[b]?=some (.cells (Zs l).toArray t (0,0)))(hk:k<l.length):w.cell? ⟨b,k,none⟩=some (.int .i64 (l[k]'hk))/\w.frozen? ⟨b,k,none⟩=false:=by
 constructor
 . simp[World.cell?,h,Zs,hk]
 . simp[World.frozen?,h]
theorem bD1(h:w.heap[b]?=some (.cells (Zs l).toArray t (0,0)))(hl:l.length<=40000):Reads w (.slice (some ⟨b,0,none⟩) l.length l.length) l.length (Zs l):=by refine⟨by simp[Zs],some ⟨b,0,none⟩,l.length,rfl,qA _,by unfold maxLen;omega,fun _=>⟨b,0,rfl,fun j u hj=>?_⟩⟩;simp only[qk];simp[World.cell?,h,hj]
theorem as0(h:Reads w (.slice ao n cap) n xs):n<=cap/\cap<=9223372036854775807:=by obtain⟨_,ao',c,e,h1,h2,_⟩:=h;unfold maxLen at h2;injection e with e1 e2 e3;omega
theorem bQ5(h:Reads w (.slice ao n cap) n xs)(hj:xs[j]?=some u):∃b off,ao=some ⟨b,off,none⟩/\w.cell? ⟨b,off+j,none⟩=some u:=by obtain⟨hl,ao',c,e,h1,h2,h3⟩:=h;injection e with e1 e2 e3;subst e1;have:=(gSm hj).1;obtain⟨b,off,q,hc⟩:=h3 qO;exact⟨b,off,q,hc j u hj⟩
theorem aG8:∀(l:List Int)(M:SMach)(i:Int),m9 M (l++[i])=((stepS (m9 M l).1 i).1,(m9 M l).2++[(stepS (m9 M l).1 i).2])
 | [],M,i=>rfl
 | a::l,M,i=>by show ((m9 (stepS M a).1 (l++[i])).1,(stepS M a).2::(m9 (stepS M a).1 (l++[i])).2)=_;rw[aG8 l];rfl
theorem ak9:∀(l:List Int)(M:SMach),(m9 M l).2.length=l.length
 | [],M=>rfl
 | a::l,M=>by show (_::(m9 (stepS M a).1 l).2).length=_;rw[ql,ak9 l,ql]
theorem InvM.stepS{I:SMach->Prop}(h:InvM ns fs I){M:SMach}(hM:I M)(i:Int):I (stepS M i).1:=by
 unfold Go.Gs.stepS;split
 . exact hM
 . exact h.step M _ hM
theorem InvM.picks{I:SMach->Prop}(h:InvM ns fs I):∀(l:List Int)(M:SMach),I M->I (m9 M l).1
 | [],M,hM=>hM
 | i::l,M,hM=>h.picks l _ (h.stepS hM i)
theorem bQ6{M:SMach}(hn:n=l.length)(hk:k<n)(hi:l[k]?=some i):(((m9 M (l.take k)).2++List.replicate (n-k) 0).set k (stepS (m9 M (l.take k)).1 i).2)=(m9 M (l.take (k+1))).2++List.replicate (n-(k+1)) 0/\(m9 M (l.take (k+1))).1=(stepS (m9 M (l.take k)).1 i).1:=by
 have e1:l.take (k+1)=l.take k++[i]:=by rw[qZ,hi];rfl
 have e2:(m9 M (l.take k)).2.length=k:=by rw[ak9,qX];omega
 have e3:List.replicate (n-k) (0:Int)=0::List.replicate (n-(k+1)) 0:=by rw[<- List.replicate_succ];congr 1;omega
 rw[e1,aG8];refine⟨?_,rfl⟩;rw[e3,zG _ _ qO,e2,xt];simp
def runR(M:SMach)(l:List Int):SMach × List Int × Int:=if mchk M≠0 then (I4,[],mchk M) else if 40000<l.length then (I4,[],2) else ((m9 M l).1,(m9 M l).2,0)
theorem aR2:(prog.info? 32).map (fun i=>(i.zero,i.size,i.bytes))=some (some (.int .i64 0),1,8):=qQ
theorem cd9(an af ax ap aS aq:Option Addr)(cn cf cx cp cs cq:Nat)(M:SMach)(l:List Int)(w:World)(h:RMach w an af ax ap aS cn cf cx cp cs M)(hq:Reads w (.slice aq l.length cq) l.length (Zs l))(Ad:FitsM M)(hE:∀W,Bq w W->q8 W)
 (I:SMach->Prop) (hI:mchk M=0->InvM M.ns M.fs I) (hM:mchk M=0->I M):
 Calls prog 16 #[machV an af ax ap aS M cn cf cx cp cs,.slice aq l.length cq] w fun e w'=>∃v s,e=.returned (.tuple #[v,s,.int .i64 (runR M l).2.2])/\S9 w.heap.size w' v (runR M l).1/\Reads w' s (runR M l).2.1.length (Zs (runR M l).2.1)/\Bq w w':=by
 have HCK:=qH (show ∀W,Bq w W->Calls prog 10 #[machV an af ax ap aS M cn cf cx cp cs] W fun e w'=>e=.returned (.int .i64 (mchk M))/\Bq W w' from fun W hW=>ak3 an af ax ap aS cn cf cx cp cs M W (h.below hW) Ad)
 have HST:=qH (show mchk M=0->∀W,Bq w W->Calls prog 21 #[machV an af ax ap aS M cn cf cx cp cs] W fun e w'=>∃D r,e=.returned (.pointer (some ⟨r,0,none⟩))/\o6 NoG w' D r M/\W.heap.size<=D/\Bq W w' from fun h0 W hW=>by
  obtain⟨q1,q2,q3⟩:=M7 h0
  exact aw7 an af ax ap aS cn cf cx cp cs M W (h.below hW) (aD5 q1 (fun p hp=>⟨fun b hb=>by have:=(q2 p hp).1 b hb;omega,fun b hb=>by have:=(q2 p hp).2 b hb;omega⟩) qO) q1 Ad.nodes)
 have HSP:Hid (mchk M=0->∀(b:Nat)(L:List Int)(D r:Nat)(M':SMach)(i:Int)(W:World),o6 (al7 b L) W D r M'->I M'->w.heap.size<=D->Bq w W->Calls prog 22 #[.pointer (some ⟨r,0,none⟩),.int .i64 i] W fun e w'=>e=.returned (.int .i64 (stepS M' i).2)/\o6 (al7 b L) w' D r (stepS M' i).1/\Below D W w'):=(show mchk M=0->∀(b:Nat)(L:List Int)(D r:Nat)(M':SMach)(i:Int)(W:World),_ from fun h0 b L D r M' i W hR hI' hD hW=>by
  obtain⟨O,d,hR1,rfl⟩:=hR
  exact aP2 D r O d i W hR1 ((hI h0).shape _ hI') (by rw[((hI h0).nodes _ hI').1];exact Ad.nodes) ((hI h0).small _ hI') (fun V hV=>hE V (hW.trans (hV.mono hD))))
 have HTO:=qH (show mchk M=0->∀k,I (m9 M (l.take k)).1 from fun h0 k=>(hI h0).picks _ _ (hM h0));have HQ:=qH hq;have hle:=as0 hq;unfold machV at HCK HST ⊢;obtain⟨RES,Aj⟩:=qE (runR M l);rw[<- Aj];unfold runR at Aj;obtain⟨n,hn⟩:=qE l.length;have HN:=qH hn;rw[<- hn]at HQ hle Aj ⊢;generalize M.ns.length=NN,M.fs.length=NF,M.pipes.length=NX,M.ps.length=NP,M.sunk.length=NS at *;clear h Ad hE hI hM hq hn;by_cases h0:mchk M=0
 .
  have Df:Hid _:=HST.o h0;have Ly:Hid _:=HSP.o h0;have Mc:Hid _:=HTO.o h0;rw[qB (by simpa using h0)]at Aj;rw[h0]at HCK;clear HST HSP HTO h0;by_cases h4:40000<n
  .
   have Bd:=qH (show RES=(I4,[],2) by rw[Aj,qF h4]);clear Aj;go_enter func16,ntmps16;go_wp2_with fail;obtain⟨W0,hW0⟩:=qE ((w.alloc (.cells #[.slice an NN cn,.slice af NF cf,.slice ax NX cx,.slice ap NP cp,.slice aS NS cs] 30)).alloc (.cells #[.slice none 0 0,.slice none 0 0,.slice none 0 0,.slice none 0 0,.slice none 0 0] 30));rw[<- hW0];have hB0:Bq w W0:=by rw[hW0];exact ((Below.refl _ w).alloc (qA _) _).alloc (by simp) _
   have hX0:BX W0 w.heap.size (.slice an NN cn) (.slice af NF cf) (.slice ax NX cx) (.slice ap NP cp) (.slice aS NS cs):=by rw[hW0];exact⟨xQ _ _ _,xM _ _ _⟩
   refine qD (HCK.o W0 hB0) ?_;rintro e w1⟨rfl,hb1⟩;have HB1:Hid (Bq w w1):=hB0.trans (hb1.mono hB0.size);have hX1:=BX.below hX0 hb1;obtain⟨y0,y1,y2,y3,y4,yf⟩:=i8 hX1.2;have yf0:=yf 0;have yf1:=yf 1;have yf2:=yf 2;have yf3:=yf 3;have yf4:=yf 4;clear hW0 hB0 hX0 hb1 hX1 HCK yf Df Ly Mc HQ;go_wp2_with fail;(try simp only[Exit.inBlock,Exit.then])
   refine qx (v:=.tuple #[.agg #[.slice none 0 0,.slice none 0 0,.slice none 0 0,.slice none 0 0,.slice none 0 0],.slice none 0 0,.int .i64 2]) ?_ rfl ?_
   . rw[j9 rfl];go_simp
   . rw[Bd.o];exact⟨_,_,rfl,S9.zero _ _,rnil,by repeat (first|refine Below.setCell ?_ (by simp) _ | exact HB1.o)⟩
  .
   have Bd:=qH (show RES=((m9 M l).1,(m9 M l).2,0) by rw[Aj,qB h4]);clear Aj;go_enter func16,ntmps16;go_wp2_with fail;obtain⟨W0,hW0⟩:=qE ((w.alloc (.cells #[.slice an NN cn,.slice af NF cf,.slice ax NX cx,.slice ap NP cp,.slice aS NS cs] 30)).alloc (.cells #[.slice none 0 0,.slice none 0 0,.slice none 0 0,.slice none 0 0,.slice none 0 0] 30));rw[<- hW0];have hB0:Bq w W0:=by rw[hW0];exact ((Below.refl _ w).alloc (qA _) _).alloc (by simp) _
   have hX0:BX W0 w.heap.size (.slice an NN cn) (.slice af NF cf) (.slice ax NX cx) (.slice ap NP cp) (.slice aS NS cs):=by rw[hW0];exact⟨xQ _ _ _,xM _ _ _⟩
   refine qD (HCK.o W0 hB0) ?_;rintro e w1⟨rfl,hb1⟩;have HB1:Hid (Bq w w1):=hB0.trans (hb1.mono hB0.size);have hX1:=BX.below hX0 hb1;obtain⟨x0,x1,x2,x3,x4,_⟩:=i8 hX1.1;have HX1:=qH hX1;clear hW0 hB0 hX0 hb1 hX1 HCK;go_wp2_with fail;refine qD (Df.o w1 HB1.o) ?_;rintro e w2⟨D,r,rfl,hR2,hD,hb2⟩;have hB2:Bq w w2:=HB1.o.trans (hb2.mono HB1.o.size);have hX2:BX w2 w.heap.size (.slice an NN cn) (.slice af NF cf) (.slice ax NX cx) (.slice ap NP cp) (.slice aS NS cs):=BX.below HX1.o hb2;have HDX:=qH (show w.heap.size+2<=D by have:=BX.lt HX1.o;omega);obtain⟨hR3,hD3⟩:=bD0 (n:=n) hR2;obtain⟨i0,hi,hi0,hi1,hi2⟩:=info_parts aR2;have hmk:∀(W:World),(Instr.makeSlice 46 (.int .i64 (n:Int)) (.int .i64 (n:Int))).run prog W=.ok (.slice (some ⟨W.heap.size,0,none⟩) n n) (W.alloc (.cells (Zs (List.replicate n 0)).toArray 32)):=fun W=>by
    have:=run_makeSlice (P:=prog) W 46 32 i0 (.int .i64 0) underlying46 hi hi0 .i64 .i64 (n:Int) (n:Int) qO qO (by rw[hi1];omega) (by rw[hi2];omega) qO;rw[hi1,qh,zI]at this;rw[this];have e:madeCells (Value.int .i64 0).cells n=(Zs (List.replicate n 0)).toArray:=by apply Array.toList_inj.1;have h1:=xK (.int .i64 0) n;show (madeCells #[Value.int .i64 0] n).toList=_;rw[h1];simp[Zs]
    rw[e]
   obtain⟨B,hB⟩:=qE w2.heap.size;obtain⟨W3,hW3⟩:=qE (w2.alloc (.cells (Zs (List.replicate n 0)).toArray 32));have hb3:Bq w2 W3:=by rw[hW3];exact (Below.refl _ w2).alloc (qA _) _
   have HR3:=qH (show o6 (al7 B (List.replicate n 0)) W3 D r M by rw[hB,hW3];exact hR3);have HB3:Hid (Bq w W3):=hB2.trans (hb3.mono hB2.size);have HX3:Hid (BX W3 w.heap.size (.slice an NN cn) (.slice af NF cf) (.slice ax NX cx) (.slice ap NP cp) (.slice aS NS cs)):=BX.below hX2 hb3;have hmk2:(Instr.makeSlice 46 (.int .i64 (n:Int)) (.int .i64 (n:Int))).run prog w2=.ok (.slice (some ⟨B,0,none⟩) n n) W3:=by rw[hmk w2,hB,hW3]
   clear hR2 hD hb2 hX2 HX1 x0 x1 x2 x3 x4 Df hmk hR3 hD3 hW3 hb3 hB2 hB hi hi0 hi1 hi2;go_wp2_with fail;clear hmk2;go_loopw [29] (fun z wr=>∃k:Nat,k<=n/\z=.int .i64 k/\Hid (o6 (al7 B ((m9 M (l.take k)).2++List.replicate (n-k) 0)) wr D r (m9 M (l.take k)).1)/\Hid (BX wr w.heap.size (.slice an NN cn) (.slice af NF cf) (.slice ax NX cx) (.slice ap NP cp) (.slice aS NS cs))/\Hid (Bq w wr)) (fun z _=>n-(intOf z).toNat)
   case atStart=>exact⟨0,qM _,rfl,HR3,HX3,HB3⟩
   case round=>
    obtain⟨k,hk,rfl,hR,hX,hBw⟩:=hrel;clear HR3 HX3 HB3;by_cases hlt:k<n
    .
     obtain⟨i,hi⟩:∃i,l[k]?=some i:=⟨_,gEl (by have:=HN.o;omega)⟩;obtain⟨bq,oq,rfl,hcq⟩:=bQ5 (HQ.o.below hBw.out) (j:=k) (u:=.int .i64 i) (by simp[Zs,hi]);have HC:Hid _:=Ly.o B _ D r _ i wr hR.out (Mc.o k) (by have:=HDX.o;omega) hBw.out;have HNX:Hid _:=bQ6 (M:=M) HN.o hlt hi;obtain⟨E,hEe⟩:=qE ((stepS (m9 M (l.take k)).1 i).2);rw[<- hEe]at HC HNX;clear hR hi hEe;go_wp2_with fail;refine qD HC.o ?_;rintro e w3⟨rfl,hR3,hb3⟩;obtain⟨s1,s2,s3⟩:=hR3.said;have hll:((m9 M (l.take k)).2++List.replicate (n-k) (0:Int)).length=n:=by rw[qI,ak9,qX,zz];have:=HN.o;omega
     obtain⟨c0,c1⟩:=bQ4 (k:=k) s1 (by rw[hll];exact hlt)
     have HR4:=qH (show o6 (al7 B ((m9 M (l.take (k+1))).2++List.replicate (n-(k+1)) 0)) (w3.setCell ⟨B,k,none⟩ (.int .i64 E)) D r (m9 M (l.take (k+1))).1 by
      rw[<- HNX.o.1,HNX.o.2]
      exact (bZ3 hR3).1)
     have HB4:=qH (show Bq w (w3.setCell ⟨B,k,none⟩ (.int .i64 E)) from Below.setCell (hBw.out.trans (hb3.mono (by have:=HDX.o;omega))) (show w.heap.size<=B by have:=HDX.o;omega) _);have HX4:=qH (show BX (w3.setCell ⟨B,k,none⟩ (.int .i64 E)) w.heap.size (.slice an NN cn) (.slice af NF cf) (.slice ax NX cx) (.slice ap NP cp) (.slice aS NS cs) from BX.other (BX.keep hX.out (fun j hj=>hb3.block j (by have:=HDX.o;omega))) (show w.heap.size+1<B by have:=HDX.o;omega));generalize ((m9 M (l.take k)).2++List.replicate (n-k) (0:Int))[k]'(by rw[hll];exact hlt)=cold at c0;clear hR3 hb3 HC s1 s2 s3 hll;go_wp2_with fail;go_roundw
     case rel=>exact⟨k+1,qO,by go_num,HR4,HX4,HB4⟩
     case measure=>simp[intOf];omega
    .
     have e:k=n:=qO;subst e;have HTK:=qH (show l.take k=l from qP (by have:=HN.o;omega));have hR3:o6 (al7 B (m9 M l).2) wr D r (m9 M l).1:=by have:=hR.out;rw[HTK.o,xt]at this;simpa using this
     obtain⟨s1,s2,s3⟩:=hR3.said;obtain⟨hrD,bn,bf,bx,bp,bS,dn,df,dx,dp,ds,vI,vM,Ak,hRM⟩:=o6.machX hR3;have hX3:=hX.out;have HRM:Hid (∀(w':World),w'.heap.size=wr.heap.size->(∀k,k≠w.heap.size+1->w'.heap[k]?=wr.heap[k]?)->aA3 w.heap.size w' bn bf bx bp bS dn df dx dp ds (m9 M l).1):=(show ∀(w':World),_ from fun w' h1 h2=>aw9 hRM (by have:=HDX.o;omega) (bg3 hX3) qO h1 h2)
     have HSD:Hid (∀(w':World),(∀k,k≠w.heap.size+1->w'.heap[k]?=wr.heap[k]?)->Reads w' (.slice (some ⟨B,0,none⟩) k k) (m9 M l).2.length (Zs (m9 M l).2)):=(show ∀(w':World),_ from fun w' h2=>by
      have e1:(m9 M l).2.length=k:=by rw[ak9];exact HN.o.symm
      have:=bD1 (w:=w') (l:=(m9 M l).2) ((h2 B (by have:=HDX.o;omega)).trans s1) qO
      rw[e1]at this ⊢
      exact this)
     obtain⟨c0,c1,c2,c3,c4,_,_⟩:=K9 Ak;have hrw:r≠w.heap.size+1:=by have:=HDX.o;omega
     have hrw':w.heap.size+1≠r:=qO;obtain⟨y0,y1,y2,y3,y4,yf⟩:=i8 hX3.2;have yf0:=yf 0;have yf1:=yf 1;have yf2:=yf 2;have yf3:=yf 3;have yf4:=yf 4;generalize hn5:(m9 M l).1.ns.length=N5 at *;generalize hf5:(m9 M l).1.fs.length=F5 at *;generalize hx5:(m9 M l).1.pipes.length=X5 at *;generalize hp5:(m9 M l).1.ps.length=P5 at *;generalize hs5:(m9 M l).1.sunk.length=S5 at *;clear hR hX hR3 hX3 Ak hRM yf s1 s2 s3 Ly Mc;go_wp2_with fail;(try simp only[Exit.inBlock,Exit.then])
     refine qx (v:=.tuple #[.agg #[.slice bn N5 dn,.slice bf F5 df,.slice bx X5 dx,.slice bp P5 dp,.slice bS S5 ds],.slice (some ⟨B,0,none⟩) k k,.int .i64 0]) ?_ rfl ?_
     . rw[j9 rfl];go_simp
     . rw[Bd.o];refine⟨.agg #[.slice bn N5 dn,.slice bf F5 df,.slice bx X5 dx,.slice bp P5 dp,.slice bS S5 ds],.slice (some ⟨B,0,none⟩) k k,rfl,?_,?_,?_⟩
       . exact⟨bn,bf,bx,bp,bS,dn,df,dx,dp,ds,by unfold machV;rw[hn5,hf5,hx5,hp5,hs5],HRM.o _ (by simp) (fun k hk=>by
          rw[Below.heap_setCell _ _ _ _ hk,Below.heap_setCell _ _ _ _ hk,Below.heap_setCell _ _ _ _ hk,Below.heap_setCell _ _ _ _ hk,Below.heap_setCell _ _ _ _ hk])⟩
       . exact HSD.o _ (fun k hk=>by
          rw[Below.heap_setCell _ _ _ _ hk,Below.heap_setCell _ _ _ _ hk,Below.heap_setCell _ _ _ _ hk,Below.heap_setCell _ _ _ _ hk,Below.heap_setCell _ _ _ _ hk])
       . repeat (first|refine Below.setCell ?_ (by simp) _ | exact hBw.out)
 .
  obtain⟨K,hK⟩:=qE (mchk M);rw[<- hK]at HCK h0;rw[qF (by rw[<- hK];exact h0)]at Aj;rw[<- hK]at Aj;have Bd:=qH Aj;clear HST HSP HTO Aj hK HQ;go_enter func16,ntmps16;go_wp2_with fail;obtain⟨W0,hW0⟩:=qE ((w.alloc (.cells #[.slice an NN cn,.slice af NF cf,.slice ax NX cx,.slice ap NP cp,.slice aS NS cs] 30)).alloc (.cells #[.slice none 0 0,.slice none 0 0,.slice none 0 0,.slice none 0 0,.slice none 0 0] 30));rw[<- hW0];have hB0:Bq w W0:=by rw[hW0];exact ((Below.refl _ w).alloc (qA _) _).alloc (by simp) _
  have hX0:BX W0 w.heap.size (.slice an NN cn) (.slice af NF cf) (.slice ax NX cx) (.slice ap NP cp) (.slice aS NS cs):=by rw[hW0];exact⟨xQ _ _ _,xM _ _ _⟩
  refine qD (HCK.o W0 hB0) ?_;rintro e w1⟨rfl,hb1⟩;have HB1:Hid (Bq w w1):=hB0.trans (hb1.mono hB0.size);have hX1:=BX.below hX0 hb1;obtain⟨y0,y1,y2,y3,y4,yf⟩:=i8 hX1.2;have yf0:=yf 0;have yf1:=yf 1;have yf2:=yf 2;have yf3:=yf 3;have yf4:=yf 4;clear hW0 hB0 hX0 hb1 hX1 HCK yf;go_wp2_with fail;(try simp only[Exit.inBlock,Exit.then])
  refine qx (v:=.tuple #[.agg #[.slice none 0 0,.slice none 0 0,.slice none 0 0,.slice none 0 0,.slice none 0 0],.slice none 0 0,.int .i64 K]) ?_ rfl ?_
  . rw[j9 rfl];go_simp
  . rw[Bd.o];exact⟨_,_,rfl,S9.zero _ _,rnil,by repeat (first|refine Below.setCell ?_ (by simp) _ | exact HB1.o)⟩
theorem aR3(i:Int):∀(l:List Int)(M:SMach),m9 M (l++[i])=((stepS (m9 M l).1 i).1,(m9 M l).2++[(stepS (m9 M l).1 i).2])
 | [],M=>rfl
 | j::l,M=>by rw[zY,m9,aR3 i l,m9];rfl
theorem ai8:∀(l:List Int)(M:SMach),(m9 M l).2.length=l.length
 | [],M=>rfl
 | j::l,M=>by rw[m9,ql,ql,ai8 l]
theorem RMem.unowned(h:RMem w D r O A d)(hb:Below D w w')(hk:∀k o,O k=some o->w'.heap[k]?=w.heap[k]?):RMem w' D r O A d:=by obtain⟨w0,b1,b2,b3,b4⟩:=h.base;refine⟨fun g o hg=>?_,⟨w0,b1,b2.trans hb,b3,b4⟩,h.xlen,h.plen,h.slen,h.aux,fun o=>(h.part o).keep h.aux (fun k hk'=>hk k o hk') (fun _ _ _=>rfl) (fun k o hk'=>(h.lo k o hk').2) (fun _ _=>rfl) (fun _ _=>hb)⟩;have:=h.lo g o hg;have:=hb.size;omega
def Y2(ns:List SNode)(fs:List SFile)(D r:Nat)(V wr:World)(v:Value)(M:SMach)(es:List Int):Prop:=
 ∃O,RefA NoG wr D r O M/\TotI ns fs M/\wr.ownsRow D 32 1 v es.length (Zs es)/\(∀g,v.ownBlock=some g->O g=none)/\Below D V wr
theorem Y2.below{M:SMach}(h:Y2 ns fs D r V w v M es)(hb:Bq w w'):Y2 ns fs D r V w' v M es:=by
 obtain⟨O,h1,h2,h3,h4,h5⟩:=h;have hD:D<=w.heap.size:=by obtain⟨d,k1,_,_⟩:=h1;exact k1.le
 exact⟨O,h1.below hb,h2,j5 h3 (fun g hg=>hb.block g (h3.lt g hg).2),h4,h5.trans (hb.mono hD)⟩
theorem Y2.step{M:SMach}(h:Y2 ns fs D r V w v M es)(Ad:∀n∈ns,G8 n)(hE:∀W,Below D V W->q8 W/\W.ShapedOpen prog)(h0:¬i<0)(h1:¬(M.ps.length:Int)<=i):
 Calls prog 15 #[.pointer (some ⟨r,0,none⟩),.int .i64 i] w fun e w'=>e=.returned (.int .i64 (stepS M i).2)/\Y2 ns fs D r V w' v (stepS M i).1 es:=by
 obtain⟨O,hA,hI,hT,hO,hb⟩:=h;obtain⟨j,rfl⟩:=qm (show 0<=i by omega);have e:stepS M (j:Int)=E3 M j:=by unfold stepS;rw[qB qO,qh]
 rw[e];refine qD (bs6 ns fs D r O M j w hA hI Ad (fun W hW=>hE W (hb.trans hW)) qO) ?_;rintro e w'⟨rfl,O',k1,k2⟩;obtain⟨d,q1,_,_⟩:=hA;refine⟨rfl,O',k1,hI.step j,j5 hT (fun g hg=>k2.block g (hT.lt g hg).2 (hO g hg)),fun g hg=>(k2.old g (hT.lt g hg).2).trans (hO g hg),hb.trans (k2.below q1.lo q1.le)⟩
theorem Y2.told{M:SMach}(h:Y2 ns fs D r V w v M es)(hl:es.length<=1000000)(hc:w.cell? ad=some (.int .i64 e))(ty:TypeId):
 ∃v' w',(Builtin.append_ #[46,46] ty #[v,.slice (some ad) 1 c]).run prog w=.ok v' w'/\(∃a' c',v'=.slice a' (es.length+1) c')/\Y2 ns fs D r V w' v' M (es++[e]):=by
 obtain⟨O,hA,hI,hT,hO,hb⟩:=h;obtain⟨d,q1,q2,q3⟩:=id hA;obtain⟨i0,hi,hi0,hi1,hi2⟩:=info_parts aR2
 obtain⟨v',w',hr,Ab,hg,_,hl2⟩:=run_append_own_at (P:=prog) w D 46 ty 32 i0 (.int .i64 0) 1 8 underlying46 hi hi0 hi1 hi2 rfl (by decide) v es.length (Zs es) hT ad 1 c [.int .i64 e] rfl (fun j u hu=>by
  have:j=0:=by have:=(gSm hu).1;simp at this;exact this
  subst this
  simp at hu
  subst hu
  simpa[Addr.add]using hc) (fun u hu=>by simp at hu;subst hu;rfl) (by unfold maxLen;omega) qO q1.le
 obtain⟨⟨a',c',hv',_,_⟩,_⟩:=g8 Ab;have hk:∀g,g<w.heap.size->v.ownBlock≠some g->w'.heap[g]?=w.heap[g]?:=fun g hgs hn=>hg.block g hgs (fun e=>hn e.symm);have hBD:Below D w w':=⟨hg.os,hg.tape,hg.output,hg.size,fun k hk'=>hk k (by have:=q1.le;omega) (fun e=>by have:=(hT.lt k e).1;omega)⟩;refine⟨v',w',hr,⟨a',c',hv'⟩,O,⟨d,q1.unowned hBD (fun k o hk'=>hk k (q1.lo k o hk').2 (fun e=>by rw[hO k e]at hk';cases hk')),q2,q3⟩,hI,?_,fun g hg'=>?_,hb.trans hBD⟩
 . rw[qI,show Zs (es++[e])=Zs es++[.int .i64 e] by simp[Zs]];exact Ab
 .
  rcases hl2 with e1 | e1
  . exact hO g (by rw[<- e1];exact hg')
  . have e2:=qd (e1.symm.trans hg')
    cases hx:O g with
    | none=>rfl
    | some o=>exact absurd (q1.lo g o hx).2 qO
theorem bZ4(h:Reads w (.slice ao n cap) n (Zs ks)){c:Int}(hk:ks[k]?=some c):∃b off,ao=some ⟨b,off,none⟩/\w.cell? ⟨b,off+k,none⟩=some (.int .i64 c):=by
 obtain⟨h1,ao',cap',e,_,_,h5⟩:=h;injection e with e1 e2 e3;subst e1;have hl:n≠0:=by
  intro e0;have h9:=(gSm hk).1;have:(Zs ks).length=ks.length:=by simp[Zs]
  omega
 obtain⟨b,off,rfl,hc⟩:=h5 hl;exact⟨b,off,rfl,hc k _ (by unfold Zs;rw[qa,hk];rfl)⟩
theorem bZ5(au av:Option Addr)(cu cv:Nat)(a:List Int)(w:World)(ha:Reads w (.slice au a.length cu) a.length (Zs a))(hb:Reads w (.slice av a.length cv) a.length (Zs a)):
 Calls prog 18 #[.slice au a.length cu,.slice av a.length cv] w fun e w'=>e=.returned (.bool true)/\Bq w w':=by
 have m2:=as0 ha;have m4:=as0 hb;have HA:=qH ha;have HB:=qH hb;obtain⟨NA,hNA⟩:=qE a.length;have HNA:=qH hNA;rw[<- hNA]at HA HB m2 m4 ⊢;clear ha hb hNA;go_enter func18,ntmps18;go_wp2_with fail;go_loopw [13] (fun i wr=>∃k:Nat,k<=NA/\i=.int .i64 k/\Hid (Bq w wr)) (fun i _=>NA-(intOf i).toNat)
 case atStart=>exact⟨0,qM _,rfl,Below.refl _ _⟩
 case round=>
  obtain⟨k,hk,rfl,Aa⟩:=hrel;by_cases hlt:k<NA
  .
   obtain⟨x,hx⟩:∃x,a[k]?=some x:=⟨_,gEl (by have:=HNA.o;omega)⟩;obtain⟨b1,o1,rfl,hc1⟩:=bZ4 (HA.o.below Aa.o) hx;obtain⟨b2,o2,rfl,hc2⟩:=bZ4 (HB.o.below Aa.o) hx;clear hx;go_wp2_with fail;go_region
   all_goals go_wp2_with fail
   all_goals go_roundw
   case rel=>exact⟨k+1,qO,by go_num,Aa.o.drew⟩
   case measure=>simp[intOf];omega
  . go_wp2_with fail;go_ret;exact⟨rfl,Aa.o⟩
theorem bD2{M:SMach}(h:Shape M)(h':TotI ns fs M')(hns:M.ns=ns):M'.ps.length=M.ps.length:=by rw[h'.1.plen,h.plen,h'.2.2.1,hns]
theorem ba1:∀(k:Nat)(M:SMach)(r:SMach × Int),Fins k M r->r.2≠0->r.1=I4
 | 0,M,r,h,hr=>by
  rcases h with⟨_,h⟩|⟨_,_,h⟩
  . rw[h]at hr;exact absurd rfl hr
  . rw[h]
 | k+1,M,r,h,hr=>ba1 k _ r h.2.2 hr
theorem bs8(an af ax ap aS aq:Option Addr)(cn cf cx cp cs cq:Nat)(M:SMach)(l:List Int)(w:World)(hM:RMach w an af ax ap aS cn cf cx cp cs M)(Ad:FitsM M)(hkM:∀n∈M.ns,(Lit.int .i64 n.c.kind).wf=true)(hsz:SizeM M)(hq:Reads w (.slice aq l.length cq) l.length (Zs l))(hE:q8 w)(hsh:w.ShapedOpen prog):
 Calls prog 4 #[machV an af ax ap aS M cn cf cx cp cs,.slice aq l.length cq] w fun e w'=>e=.returned (.bool true)/\Bq w w':=by
 obtain⟨k0,res,Ed⟩:∃k0 res,mchk M=0->Fins k0 M res:=by
  by_cases h0:mchk M=0
  . obtain⟨k,r,h⟩:=cg2 (M7 h0).1;exact⟨k,r,fun _=>h⟩
  . exact⟨0,(I4,0),fun h=>absurd h h0⟩
 have Hg:=qH (show ∀V,Bq w V->Calls prog 5 #[machV an af ax ap aS M cn cf cx cp cs] V fun e w'=>∃a0 a1 a2 a3 a4 c0 c1 c2 c3 c4 D,e=.returned (.agg #[.slice a0 M.ns.length c0,.slice a1 M.fs.length c1,.slice a2 M.pipes.length c2,.slice a3 M.ps.length c3,.slice a4 M.sunk.length c4])/\Hid (RMach (w'.alloc (.cells #[.slice a0 M.ns.length c0,.slice a1 M.fs.length c1,.slice a2 M.pipes.length c2,.slice a3 M.ps.length c3,.slice a4 M.sunk.length c4] 30)) a0 a1 a2 a3 a4 c0 c1 c2 c3 c4 M/\(∃O',RefA NoG (w'.alloc (.cells #[.slice a0 M.ns.length c0,.slice a1 M.fs.length c1,.slice a2 M.pipes.length c2,.slice a3 M.ps.length c3,.slice a4 M.sunk.length c4] 30)) D w'.heap.size O' M)/\V.heap.size<=D/\Bq V w') from fun V hV=>by
  refine qD (ao6 an af ax ap aS cn cf cx cp cs M V (hM.below hV) hsz) ?_
  rintro e w'⟨D,vN,vF,vX,vP,sS,X,P,O,rfl,Im,hD,hb⟩
  obtain⟨a0,a1,a2,a3,a4,c0,c1,c2,c3,c4,rfl,rfl,rfl,rfl,e4,k1,k2⟩:=bF9 Im
  exact⟨a0,a1,a2,a3,a4,c0,c1,c2,c3,c4,D,by rw[e4],k1,k2,hD,hb⟩)
 have HCM:=qH (show ∀V,Bq w V->Calls prog 8 #[machV an af ax ap aS M cn cf cx cp cs] V fun e w'=>e=.returned (.int .i64 (mchk M))/\Bq V w' from fun V hV=>ai7 an af ax ap aS cn cf cx cp cs M V (hM.below hV) Ad hkM);have HMI:=qH (show ∀V,Bq w V->Calls prog 9 #[] V fun e w'=>e=.returned (.bool true)/\Bq V w' from fun V hV=>aG3 V (hE.below hV))
 have Au:=qH (show ∀V,Bq w V->Calls prog 16 #[machV an af ax ap aS M cn cf cx cp cs,.slice aq l.length cq] V fun e w'=>∃v a c,e=.returned (.tuple #[v,.slice a (runR M l).2.1.length c,.int .i64 (runR M l).2.2])/\E7 w' v (runR M l).1/\Reads w' (.slice a (runR M l).2.1.length c) (runR M l).2.1.length (Zs (runR M l).2.1)/\Bq V w' from fun V hV=>by
  refine qD (cd9 an af ax ap aS aq cn cf cx cp cs cq M l V (hM.below hV) (hq.below hV) Ad (fun U hU=>(hE.below hV).below hU) (TotI M.ns M.fs) (fun _=>aA7 M.ns M.fs) (fun h0=>aI2 h0)) ?_
  rintro e w'⟨v,s,rfl,h1,h2,h3⟩
  obtain⟨_,a,c,rfl,_⟩:=id h2
  exact⟨v,a,c,rfl,h1.ans,h2,h3⟩)
 have Gg:=qH (show ∀V,Bq w V->Calls prog 17 #[machV an af ax ap aS M cn cf cx cp cs] V fun e w'=>∃v,e=.returned (.tuple #[v,.int .i64 (finR M res).2])/\E7 w' v (finR M res).1/\Bq V w' from fun V hV=>aQ5 an af ax ap aS cn cf cx cp cs M V (hM.below hV) Ad (fun U hU=>(hE.below hV).below hU) (TotI M.ns M.fs) (fun _=>aA7 M.ns M.fs) (fun h0=>aI2 h0) k0 res Ed);have HEV:=qH (show ∀V,Bq w V->q8 V/\V.ShapedOpen prog from fun V hV=>⟨hE.below hV,M4 hsh hV⟩);have HFI:=qH Ed;have HFT:Hid (∀n∈M.ns,G8 n):=Ad.nodes;have HQ:=qH hq;obtain⟨NN,hNN⟩:=qE M.ns.length;obtain⟨NF,hNF⟩:=qE M.fs.length;obtain⟨NX,hNX⟩:=qE M.pipes.length;obtain⟨NP,hNP⟩:=qE M.ps.length;obtain⟨NS,hNS⟩:=qE M.sunk.length;obtain⟨NL,hNL⟩:=qE l.length;have HL:Hid (NN=M.ns.length/\NF=M.fs.length/\NX=M.pipes.length/\NP=M.ps.length/\NS=M.sunk.length/\NL=l.length):=⟨hNN,hNF,hNX,hNP,hNS,hNL⟩;have HMV:=qH (show ∀a0 a1 a2 a3 a4 c0 c1 c2 c3 c4,machV a0 a1 a2 a3 a4 M c0 c1 c2 c3 c4=.agg #[.slice a0 NN c0,.slice a1 NF c1,.slice a2 NX c2,.slice a3 NP c3,.slice a4 NS c4] from fun a0 a1 a2 a3 a4 c0 c1 c2 c3 c4=>by rw[hNN,hNF,hNX,hNP,hNS];rfl);rw[HMV.o]at Hg HCM Au Gg ⊢;rw[<- hNN,<- hNF,<- hNX,<- hNP,<- hNS]at Hg;rw[<- hNL]at Au HQ ⊢;have hps:NP<=cp/\cp<=9223372036854775807:=by rw[hNP];exact U7 hM.procs
 have hql:NL<=cq/\cq<=9223372036854775807:=as0 HQ.o;clear hM Ad hkM hsz hq hE hsh hNN hNF hNX hNP hNS hNL Ed;obtain⟨W0,hW0⟩:=qE (w.alloc (.cells #[.slice an NN cn,.slice af NF cf,.slice ax NX cx,.slice ap NP cp,.slice aS NS cs] 30));have HB0:=qH (show Bq w W0 by rw[hW0];exact boxE);have HL0:=qH (show MB W0 w.heap.size (.slice an NN cn) (.slice af NF cf) (.slice ax NX cx) (.slice ap NP cp) (.slice aS NS cs) by rw[hW0];exact MB.new);obtain⟨m0,m1,m2,m3,m4⟩:=HL0.o.cells;go_enter func4,ntmps4;go_upto_region 1 with fail;rw[<- hW0];clear hW0;go_wp2_with fail;refine qD (Au.o W0 HB0.o) ?_;rintro e w1⟨v1,sa,sc,rfl,hA1,hS1,hb1⟩;obtain⟨x0,x1,x2,x3,x4,y0,y1,y2,y3,y4,rfl,hR1⟩:=hA1;obtain⟨MX,hMX⟩:=qE ((runR M l).1);obtain⟨ES,hES⟩:=qE ((runR M l).2.1);obtain⟨KX,hKX⟩:=qE ((runR M l).2.2);rw[<- hMX]at hR1;rw[<- hES]at hS1;rw[<- hMX,<- hES,<- hKX];have HRX:Hid (MX=(runR M l).1/\ES=(runR M l).2.1/\KX=(runR M l).2.2):=⟨hMX,hES,hKX⟩;have HVX:=qH (show machV x0 x1 x2 x3 x4 MX y0 y1 y2 y3 y4=.agg #[.slice x0 MX.ns.length y0,.slice x1 MX.fs.length y1,.slice x2 MX.pipes.length y2,.slice x3 MX.ps.length y3,.slice x4 MX.sunk.length y4] from rfl);rw[HVX.o];obtain⟨W1,hW1⟩:=qE (w1.alloc (.cells #[.slice x0 MX.ns.length y0,.slice x1 MX.fs.length y1,.slice x2 MX.pipes.length y2,.slice x3 MX.ps.length y3,.slice x4 MX.sunk.length y4] 30));have Hh:Bq W0 W1:=by rw[hW1];exact hb1.alloc hb1.size _
 have HB1:=qT HB0 Hh;have HL1:Hid (MB W1 w.heap.size (.slice an NN cn) (.slice af NF cf) (.slice ax NX cx) (.slice ap NP cp) (.slice aS NS cs)):=HL0.o.below Hh;have HX1:=qH (show MB W1 w1.heap.size (.slice x0 MX.ns.length y0) (.slice x1 MX.fs.length y1) (.slice x2 MX.pipes.length y2) (.slice x3 MX.ps.length y3) (.slice x4 MX.sunk.length y4) by rw[hW1];exact MB.new);have HRX1:=qH (show RMach W1 x0 x1 x2 x3 x4 y0 y1 y2 y3 y4 MX by rw[hW1];exact hR1.below boxE);have HS1:=qH (show Reads W1 (.slice sa ES.length sc) ES.length (Zs ES) by rw[hW1];exact hS1.below boxE);obtain⟨b1,Kv⟩:=qE w1.heap.size;rw[<- Kv]at HX1;obtain⟨SN,hSN⟩:=qE MX.ns.length;obtain⟨SF,hSF⟩:=qE MX.fs.length;obtain⟨SX,hSX⟩:=qE MX.pipes.length;obtain⟨SP,hSP⟩:=qE MX.ps.length;obtain⟨SS,hSS⟩:=qE MX.sunk.length;obtain⟨EL,hEL⟩:=qE ES.length;have HSL:Hid (SN=MX.ns.length/\SF=MX.fs.length/\SX=MX.pipes.length/\SP=MX.ps.length/\SS=MX.sunk.length):=⟨hSN,hSF,hSX,hSP,hSS⟩;have HEL:=qH hEL;rw[<- hSN,<- hSF,<- hSX,<- hSP,<- hSS]at HX1 hW1 HVX ⊢;rw[<- hEL]at HS1 ⊢;clear hSN hSF hSX hSP hSS hEL hb1 Hh hR1 hS1 hMX hES hKX HL0 HB0 m0 m1 m2 m3 m4 Au;obtain⟨m0,m1,m2,m3,m4⟩:=HL1.o.cells;go_upto_region 2 with fail;rw[<- hW1,<- Kv];clear hW1 Kv;go_wp2_with fail;refine qD (Gg.o W1 HB1.o) ?_;rintro e w2⟨v2,rfl,hA2,hb2⟩;obtain⟨u0,u1,u2,u3,u4,z0,z1,z2,z3,z4,rfl,hR2⟩:=hA2;obtain⟨MY,hMY⟩:=qE ((finR M res).1);obtain⟨KY,hKY⟩:=qE ((finR M res).2);rw[<- hMY]at hR2;rw[<- hMY,<- hKY];have HRY:Hid (MY=(finR M res).1/\KY=(finR M res).2):=⟨hMY,hKY⟩;have HVY:=qH (show machV u0 u1 u2 u3 u4 MY z0 z1 z2 z3 z4=.agg #[.slice u0 MY.ns.length z0,.slice u1 MY.fs.length z1,.slice u2 MY.pipes.length z2,.slice u3 MY.ps.length z3,.slice u4 MY.sunk.length z4] from rfl);rw[HVY.o];obtain⟨W2,hW2⟩:=qE (w2.alloc (.cells #[.slice u0 MY.ns.length z0,.slice u1 MY.fs.length z1,.slice u2 MY.pipes.length z2,.slice u3 MY.ps.length z3,.slice u4 MY.sunk.length z4] 30));have Ee:Bq W1 W2:=by rw[hW2];exact hb2.alloc hb2.size _
 have HB2:=qT HB1 Ee;have HL2:Hid (MB W2 w.heap.size (.slice an NN cn) (.slice af NF cf) (.slice ax NX cx) (.slice ap NP cp) (.slice aS NS cs)):=HL1.o.below Ee;have HX2:Hid (MB W2 b1 (.slice x0 SN y0) (.slice x1 SF y1) (.slice x2 SX y2) (.slice x3 SP y3) (.slice x4 SS y4)):=HX1.o.below Ee;have Nb:Hid (RMach W2 x0 x1 x2 x3 x4 y0 y1 y2 y3 y4 MX):=HRX1.o.below Ee;have HS2:Hid (Reads W2 (.slice sa EL sc) EL (Zs ES)):=HS1.o.below Ee;have HY2:=qH (show MB W2 w2.heap.size (.slice u0 MY.ns.length z0) (.slice u1 MY.fs.length z1) (.slice u2 MY.pipes.length z2) (.slice u3 MY.ps.length z3) (.slice u4 MY.sunk.length z4) by rw[hW2];exact MB.new);have HRY2:=qH (show RMach W2 u0 u1 u2 u3 u4 z0 z1 z2 z3 z4 MY by rw[hW2];exact hR2.below boxE);obtain⟨b2,Kw⟩:=qE w2.heap.size;rw[<- Kw]at HY2;obtain⟨TN,hTN⟩:=qE MY.ns.length;obtain⟨TF,hTF⟩:=qE MY.fs.length;obtain⟨TX,hTX⟩:=qE MY.pipes.length;obtain⟨TP,hTP⟩:=qE MY.ps.length;obtain⟨TS,hTS⟩:=qE MY.sunk.length;have HTL:Hid (TN=MY.ns.length/\TF=MY.fs.length/\TX=MY.pipes.length/\TP=MY.ps.length/\TS=MY.sunk.length):=⟨hTN,hTF,hTX,hTP,hTS⟩;rw[<- hTN,<- hTF,<- hTX,<- hTP,<- hTS]at HY2 hW2 HVY ⊢;clear hTN hTF hTX hTP hTS hb2 Ee hR2 hMY hKY HL1 HX1 HRX1 HS1 HB1 m0 m1 m2 m3 m4 Gg;obtain⟨m0,m1,m2,m3,m4⟩:=HL2.o.cells;obtain⟨CK,hCK⟩:=qE (mchk M);have Nc:=qH hCK;rw[<- hCK]at HCM;clear hCK;go_upto_region 3 with fail;rw[<- hW2,<- Kw];clear hW2 Kw;go_wp2_with fail;refine qD (HCM.o W2 HB2.o) ?_;rintro e w4⟨rfl,hb4⟩;have Xq:=qH hb4;clear hb4 m0 m1 m2 m3 m4 HCM;go_wp2_with fail;refine qD (HMI.o w4 (HB2.o.trans (Xq.o.mono HB2.o.size))) ?_;rintro e w5⟨rfl,hb5⟩;have Gv:=qT Xq hb5;clear hb5 Xq HMI;go_upto_region 6 with fail;go_cut [40] (fun x wx=>x=.bool (decide (CK≠0\/40000<NL))/\wx=w5)
 case first=>
  by_cases hC:CK=0
  . subst hC;by_cases hn:40000<NL
    . have hn':(40000:Int)<(NL:Int):=qO;have e:=qH (show decide ((0:Int)≠0\/40000<NL)=true from qV (.inr hn));go_wp2_with fail;go_meet;exact⟨by rw[e.out],rfl⟩
    . have hn':¬(40000:Int)<(NL:Int):=qO;have e:=qH (show decide ((0:Int)≠0\/40000<NL)=false from qG (fun h=>h.elim (fun h=>h rfl) hn));go_wp2_with fail;go_meet;exact⟨by rw[e.out],rfl⟩
  . have hCb:(CK != 0)=true:=by simpa using hC
    have e:=qH (show decide (CK≠0\/40000<NL)=true from qV (.inl hC));go_wp2_with fail;go_meet;exact⟨by rw[e.out],rfl⟩
 case rest=>
  obtain⟨rfl,rfl⟩:=hcut;by_cases Dc:CK≠0\/40000<NL
  .
   have e:decide (CK≠0\/40000<NL)=true:=qV Dc;rw[e];clear e;obtain⟨KB,hKB⟩:=qE ((if CK=0 then 2 else CK));have Ae:runR M l=(I4,[],KB):=by
    unfold runR;rw[<- Nc.o,<- HL.o.2.2.2.2.2,hKB];by_cases hC:CK=0
    . rw[qB (by simpa using hC),qF (by rcases Dc with h | h;exact absurd hC h;exact h),qF hC]
    . rw[qF hC,qB hC]
   have hMX:MX=I4:=by rw[HRX.o.1,Ae]
   have hKX:KX=KB:=by rw[HRX.o.2.2,Ae]
   have hE0:EL=0:=by rw[HEL.o,HRX.o.2.1,Ae];rfl
   have HSM:=qH (show Calls prog 11 #[.agg #[.slice x0 SN y0,.slice x1 SF y1,.slice x2 SX y2,.slice x3 SP y3,.slice x4 SS y4],.agg #[.slice none 0 0,.slice none 0 0,.slice none 0 0,.slice none 0 0,.slice none 0 0]] wc fun e w'=>e=.returned (.bool true)/\Bq wc w' by
    obtain⟨e0,e1,e2,e3,e4,f0,f1,f2,f3,f4,e,hR⟩:=E7.zero wc
    rw[<- hMX]at e hR
    have:=F2 x0 x1 x2 x3 x4 e0 e1 e2 e3 e4 y0 y1 y2 y3 y4 f0 f1 f2 f3 f4 MX wc (Nb.o.below Gv.o) hR
    rw[HVX.o,<- e]at this
    exact this)
   obtain⟨t0,t1,t2,t3,t4⟩:=(HX2.o.below Gv.o).cells;have HBC:Hid (Bq w wc):=HB2.o.trans (Gv.o.mono HB2.o.size);subst hKX hE0;have hKK:(KX==KX)=true:=by simp
   clear Ae hMX;by_cases hC:CK=0;have eK:KX=2:=by rw[hKB,qF hC]
   subst eK;subst hC;rotate_left
   have eK:CK=KX:=by rw[hKB,qB hC]
   subst eK;have hCb:(CK==0)=false:=by rw[qg];exact hC
   rotate_left
   all_goals
    clear hKB Dc;go_wp2_with fail;refine qD HSM.o ?_;rintro e w9⟨rfl,hb9⟩;have HBE:=qT HBC hb9;clear hb9;go_wp2_with fail;(try simp only[Exit.inBlock,Exit.then])
    go_ret;exact⟨rfl,HBE.o⟩
  .
   have e:decide (CK≠0\/40000<NL)=false:=qG Dc;rw[e];clear e;have hC:CK=0:=Decidable.byContradiction (fun h=>Dc (.inl h));have hn:NL<=40000:=qO;have h0:mchk M=0:=Nc.o.symm.trans hC;have Ae:runR M l=((m9 M l).1,(m9 M l).2,0):=by unfold runR;rw[qB (by simpa using h0),qB (by rw[<- HL.o.2.2.2.2.2];omega)]
   have hfr:finR M res=res:=by unfold finR;rw[qB (by simpa using h0)]
   have hMX:MX=(m9 M l).1:=by rw[HRX.o.1,Ae]
   have Xr:ES=(m9 M l).2:=by rw[HRX.o.2.1,Ae]
   have hKX:KX=0:=by rw[HRX.o.2.2,Ae]
   have hMY:MY=res.1:=by rw[HRY.o.1,hfr]
   have hKY:KY=res.2:=by rw[HRY.o.2,hfr]
   have Xs:EL=NL:=by rw[HEL.o,Xr,ai8,HL.o.2.2.2.2.2]
   have HP:Hid (MX=(m9 M l).1/\ES=(m9 M l).2/\MY=res.1/\KY=res.2/\mchk M=0):=⟨hMX,Xr,hMY,hKY,h0⟩;have HSH:Hid (Shape M/\TotI M.ns M.fs M):=⟨(M7 h0).1,aI2 h0⟩;obtain⟨V3,hV3⟩:=qE wc;subst hV3;have HBV:Hid (Bq w V3):=HB2.o.trans (Gv.o.mono HB2.o.size);have HLV:Hid (MB V3 w.heap.size (.slice an NN cn) (.slice af NF cf) (.slice ax NX cx) (.slice ap NP cp) (.slice aS NS cs)):=HL2.o.below Gv.o;have HXV:Hid (MB V3 b1 (.slice x0 SN y0) (.slice x1 SF y1) (.slice x2 SX y2) (.slice x3 SP y3) (.slice x4 SS y4)):=HX2.o.below Gv.o;have HRXV:Hid (RMach V3 x0 x1 x2 x3 x4 y0 y1 y2 y3 y4 MX):=Nb.o.below Gv.o;have HSV:Hid (Reads V3 (.slice sa EL sc) EL (Zs ES)):=HS2.o.below Gv.o;have HYV:Hid (MB V3 b2 (.slice u0 TN z0) (.slice u1 TF z1) (.slice u2 TX z2) (.slice u3 TP z3) (.slice u4 TS z4)):=HY2.o.below Gv.o;have HRYV:Hid (RMach V3 u0 u1 u2 u3 u4 z0 z1 z2 z3 z4 MY):=HRY2.o.below Gv.o;rw[Xs]at HSV;rw[Xs];subst hKX;subst hC;obtain⟨m0,m1,m2,m3,m4⟩:=HLV.o.cells;clear Dc h0 Ae hfr hMX Xr hMY hKY Xs Gv HB2 HL2 HX2 Nb HS2 HY2 HRY2 HRX HRY HEL Nc;go_wp2_with fail;refine qD (Hg.o V3 HBV.o) ?_;rintro e w6⟨a0,a1,a2,a3,a4,c0,c1,c2,c3,c4,D,rfl,h6⟩;obtain⟨W6,hW6⟩:=qE (w6.alloc (.cells #[.slice a0 NN c0,.slice a1 NF c1,.slice a2 NX c2,.slice a3 NP c3,.slice a4 NS c4] 30));have hx6:=h6.out;rw[<- hW6]at hx6;obtain⟨_,⟨OW,hAW⟩,hDW,hb6⟩:=hx6;have hb6':Bq V3 W6:=by rw[hW6];exact hb6.alloc hb6.size _
   obtain⟨r,hr⟩:=qE w6.heap.size;rw[<- hr]at hAW;have HG0:=qH (show Y2 M.ns M.fs D r W6 W6 (.slice none 0 0) M [] from ⟨OW,hAW,HSH.o.2,⟨rfl,.inl ⟨rfl,rfl⟩⟩,(fun g hg=>by cases hg),Below.refl _ _⟩);have HB6:Hid (Bq V3 W6/\V3.heap.size<=D):=⟨hb6',hDW⟩;have HBr:=qH (show ∀W,Below D W6 W->Bq V3 W from fun W hW=>Below.deep HB6.o.1 hW HB6.o.2);have Ft:Hid (∀(V:World)(v:Value)(M':SMach)(es:List Int)(i:Int),Y2 M.ns M.fs D r W6 V v M' es->¬i<0->¬(M'.ps.length:Int)<=i->Calls prog 15 #[.pointer (some ⟨r,0,none⟩),.int .i64 i] V fun e w'=>e=.returned (.int .i64 (stepS M' i).2)/\Y2 M.ns M.fs D r W6 w' v (stepS M' i).1 es):=(show ∀(V:World)(v:Value)(M':SMach)(es:List Int)(i:Int),_ from fun V v M' es i hG h0 h1=>hG.step HFT.o (fun U hU=>HEV.o U (HBV.o.trans ((HBr.o U hU).mono HBV.o.size))) h0 h1);clear h6 hAW hDW hb6 hb6' m0 m1 m2 m3 m4;go_upto_region 11 with fail;rw[<- hW6,<- hr];clear hW6 hr;go_wp2_with fail;go_loopw [12,60] (fun t z wr=>∃(k:Nat)(ta:Option Addr)(tc:Nat),k<=NL/\z=.int .i64 k/\t=.slice ta k tc/\Hid (Y2 M.ns M.fs D r W6 wr (.slice ta k tc) (m9 M (l.take k)).1 (m9 M (l.take k)).2)) (fun _ z _=>NL-(intOf z).toNat)
   case atStart=>exact⟨0,none,0,qM _,rfl,rfl,(show Y2 _ _ _ _ _ _ _ _ _ by rw[List.take_zero];exact HG0.o)⟩
   case round=>
    obtain⟨k,ta,tc,hk,rfl,rfl,hG⟩:=hrel;obtain⟨OG,hA,hI,hT,_,hbG⟩:=id hG.out;have hbV:=HBr.o wr hbG;by_cases hlt:k<NL
    .
     obtain⟨i,hi⟩:∃i,l[k]?=some i:=⟨_,gEl (by have:=HL.o.2.2.2.2.2;omega)⟩;obtain⟨qb,qo,rfl,hqc⟩:=bZ4 (HQ.o.below (qT HBV hbV).out) hi;obtain⟨_,_,_,m3,_⟩:=(HLV.o.below hbV).cells;have hpl:(m9 M (l.take k)).1.ps.length=NP:=by rw[bD2 HSH.o.1 hI rfl,HL.o.2.2.2.1]
     have htk:l.take (k+1)=l.take k++[i]:=by rw[qZ,hi];rfl
     have hps:=aR3 i (l.take k) M;rw[<- htk]at hps;have hel:(m9 M (l.take k)).2.length=k:=by rw[ai8,qX];have:=HL.o.2.2.2.2.2;omega
     have HPS:=qH hps;obtain⟨MK,hMK⟩:=qE ((m9 M (l.take k)).1);obtain⟨EK,hEK⟩:=qE ((m9 M (l.take k)).2);rw[<- hMK,<- hEK]at hG HPS;rw[<- hMK]at hpl;rw[<- hEK]at hel
     have HTO:Hid (∀(V:World)(M':SMach)(e:Int),Y2 M.ns M.fs D r W6 V (.slice ta k tc) M' EK->∃v' w',(Builtin.append_ #[46,46] 46 #[.slice ta k tc,.slice (some ⟨V.heap.size,0,none⟩) 1 1]).run prog (V.alloc (.cells #[.int .i64 e] 32))=.ok v' w'/\∃a' c',v'=.slice a' (k+1) c'/\Hid (Y2 M.ns M.fs D r W6 w' v' M' (EK++[e]))):=(show ∀(V:World)(M':SMach)(e:Int),_ from fun V M' e hh=>by
      have hbx:(V.alloc (.cells #[.int .i64 e] 32)).cell? ⟨V.heap.size,0,none⟩=some (.int .i64 e):=by rw[qY _ _ _ _ _ _ (qJ V (.cells #[.int .i64 e] 32))];rfl
      obtain⟨v',w',q1,⟨a',c',q2⟩,q3⟩:=Y2.told (hh.below boxE) qO (c:=1) hbx 46
      rw[hel]at q2
      exact⟨v',w',q1,a',c',q2,q3⟩)
     have HSK:=qH (show stepS MK i=if i<0\/(NP:Int)<=i then (MK,5) else E3 MK i.toNat by unfold stepS;rw[hpl]);clear hA hI hT hbG hbV hi htk hps hel hMK hEK;by_cases hin:i<0\/(NP:Int)<=i
     .
      have HS5:=qH (show stepS MK i=(MK,5) by rw[HSK.o,qF hin]);obtain⟨v',w',Ae,a',c',rfl,hG'⟩:=HTO.o wr MK 5 hG.out;have HG':=qH (show Y2 M.ns M.fs D r W6 w' (.slice a' (k+1) c') (m9 M (l.take (k+1))).1 (m9 M (l.take (k+1))).2 by rw[HPS.o,HS5.o];exact hG'.out);clear HTO HSK HS5 HPS hG' hpl hG;by_cases hi0:i<0;have hge:¬0<=i:=qO;rotate_left
      have hge:0<=i:=qO;have Cf:¬i<(NP:Int):=qO;rotate_left
      all_goals
       clear hin;go_wp2_with (at_builtin;refine j4 _ rfl (.tmp 75) (.tmp 77) 46 rfl _ _ rfl rfl Ae ?_)
       go_roundw
       case rel=>exact⟨k+1,a',c',qO,by go_num,rfl,HG'⟩
       case measure=>simp[intOf];omega
     . have hge:0<=i:=qO;have Cf:i<(NP:Int):=qO;have HCS:Hid _:=Ft.o wr (.slice ta k tc) MK EK i hG.out qO qO;obtain⟨SE,hSE⟩:=qE ((stepS MK i).2);rw[<- hSE]at HCS HPS;clear hin HSK hpl hG hSE;go_wp2_with fail;refine qD HCS.o ?_;rintro e w7⟨rfl,hG7⟩;obtain⟨v',w',Ae,a',c',rfl,hG'⟩:=HTO.o w7 (stepS MK i).1 SE hG7;have HG':=qH (show Y2 M.ns M.fs D r W6 w' (.slice a' (k+1) c') (m9 M (l.take (k+1))).1 (m9 M (l.take (k+1))).2 by rw[HPS.o];exact hG'.out);clear HTO HPS hG' hG7 HCS hge Cf hqc m3;go_wp2_with (at_builtin;refine j4 _ rfl (.tmp 75) (.tmp 77) 46 rfl _ _ rfl rfl Ae ?_)
       go_roundw
       case rel=>exact⟨k+1,a',c',qO,by go_num,rfl,HG'⟩
       case measure=>simp[intOf];omega
    .
     obtain rfl:NL=k:=qO;have htl:l.take NL=l:=qP (by have:=HL.o.2.2.2.2.2;omega);rw[htl]at hA hT;rw[<- HP.o.1]at hA;rw[<- HP.o.2.1]at hT;have hTr:Reads wr (.slice ta NL tc) NL (Zs ES):=by have:=Reads.of_owns hT;rw[HP.o.2.1,ai8,<- HL.o.2.2.2.2.2]at this;rw[HP.o.2.1];exact this
     have HBW:=qH hbV
     have HEQ:=qH (show Calls prog 18 #[.slice sa NL sc,.slice ta NL tc] wr fun e w'=>e=.returned (.bool true)/\Bq wr w' by
      have hN:NL=ES.length:=by rw[HP.o.2.1,ai8,HL.o.2.2.2.2.2]
      have h1:=HSV.o.below hbV
      rw[hN]at h1 hTr ⊢
      exact bZ5 sa ta sc tc ES wr h1 hTr)
     have HAW:=qH hA;clear hG hA hI hT hbG hbV htl hTr hlt hk;go_wp2_with fail;refine qD HEQ.o ?_;rintro e w8⟨rfl,hb8⟩;have Sz:=qT HBW hb8;obtain⟨e0,e1,e2,e3,e4,f0,f1,f2,f3,f4,hbx,hRW⟩:=ar4 (HAW.o.below hb8);obtain⟨v0,v1,v2,v3,v4⟩:=hbx.cells;obtain⟨t0,t1,t2,t3,t4⟩:=(HXV.o.below Sz.o).cells;have HSM:Hid (Calls prog 11 #[.agg #[.slice x0 MX.ns.length y0,.slice x1 MX.fs.length y1,.slice x2 MX.pipes.length y2,.slice x3 MX.ps.length y3,.slice x4 MX.sunk.length y4],.agg #[.slice e0 MX.ns.length f0,.slice e1 MX.fs.length f1,.slice e2 MX.pipes.length f2,.slice e3 MX.ps.length f3,.slice e4 MX.sunk.length f4]] w8 fun e w'=>e=.returned (.bool true)/\Bq w8 w'):=F2 x0 x1 x2 x3 x4 e0 e1 e2 e3 e4 y0 y1 y2 y3 y4 f0 f1 f2 f3 f4 MX w8 (HRXV.o.below Sz.o) hRW;rw[<- HSL.o.1,<- HSL.o.2.1,<- HSL.o.2.2.1,<- HSL.o.2.2.2.1,<- HSL.o.2.2.2.2]at HSM;rw[<- HSL.o.1]at v0;rw[<- HSL.o.2.1]at v1;rw[<- HSL.o.2.2.1]at v2;rw[<- HSL.o.2.2.2.1]at v3;rw[<- HSL.o.2.2.2.2]at v4;clear hb8 hbx hRW HEQ HAW HBW;go_wp2_with fail;refine qD HSM.o ?_;rintro e w9⟨rfl,hb9⟩;have Qp:=qT Sz hb9;clear hb9 HSM v0 v1 v2 v3 v4 t0 t1 t2 t3 t4 Sz;obtain⟨m0,m1,m2,m3,m4⟩:=(HLV.o.below Qp.o).cells;go_wp2_with fail;refine qD (Hg.o w9 (HBV.o.trans (Qp.o.mono HBV.o.size))) ?_;rintro e wa⟨d0,d1,d2,d3,d4,k0',k1,k2,k3,k4,D',rfl,ha⟩;obtain⟨Wa,hWa⟩:=qE (wa.alloc (.cells #[.slice d0 NN k0',.slice d1 NF k1,.slice d2 NX k2,.slice d3 NP k3,.slice d4 NS k4] 30));have hxa:=ha.out;rw[<- hWa]at hxa;obtain⟨_,⟨OE,hAE⟩,hDE,hba⟩:=hxa;have hba':Bq w9 Wa:=by rw[hWa];exact hba.alloc hba.size _
     obtain⟨r',hr'⟩:=qE wa.heap.size;rw[<- hr']at hAE;have HBA:Hid (Bq V3 Wa/\V3.heap.size<=D'):=⟨Qp.o.trans (hba'.mono Qp.o.size),qc Qp.o.size hDE⟩;have HEN:Hid _:=bQ3 M.ns M.fs D' r' M Wa Wa ⟨⟨OE,hAE⟩,HSH.o.2,Below.refl _ _⟩ HFT.o (fun U hU=>HEV.o U (HBV.o.trans ((Below.deep HBA.o.1 hU HBA.o.2).mono HBV.o.size))) k0 res (HFI.o HP.o.2.2.2.2);clear ha hAE hDE hba hba' m0 m1 m2 m3 m4;go_upto_region 23 with fail;rw[<- hWa,<- hr'];clear hWa hr';obtain⟨RK,hRK⟩:=qE res.2;have HRK:=qH hRK;rw[<- hRK]at HEN;have hKY:KY=RK:=by rw[HP.o.2.2.2.1,hRK]
     subst hKY;clear hRK;go_wp2_with fail;refine qD HEN.o ?_;rintro e wb⟨rfl,hEA,hbb⟩;have HBb:Hid (Bq V3 wb):=Below.deep HBA.o.1 hbb HBA.o.2;have HBE:Hid (Bq w wb):=HBV.o.trans (HBb.o.mono HBV.o.size);obtain⟨t0,t1,t2,t3,t4⟩:=(HYV.o.below HBb.o).cells;have HRb:Hid (RMach wb u0 u1 u2 u3 u4 z0 z1 z2 z3 z4 MY):=HRYV.o.below HBb.o;by_cases hS:KY=0
     . obtain⟨⟨OF,hAF⟩,_,_⟩:=hEA hS;rw[<- HP.o.2.2.1]at hAF;obtain⟨e0,e1,e2,e3,e4,f0,f1,f2,f3,f4,hbx,hRW⟩:=ar4 hAF;obtain⟨v0,v1,v2,v3,v4⟩:=hbx.cells;have HSM:Hid (Calls prog 11 #[.agg #[.slice u0 MY.ns.length z0,.slice u1 MY.fs.length z1,.slice u2 MY.pipes.length z2,.slice u3 MY.ps.length z3,.slice u4 MY.sunk.length z4],.agg #[.slice e0 MY.ns.length f0,.slice e1 MY.fs.length f1,.slice e2 MY.pipes.length f2,.slice e3 MY.ps.length f3,.slice e4 MY.sunk.length f4]] wb fun e w'=>e=.returned (.bool true)/\Bq wb w'):=F2 u0 u1 u2 u3 u4 e0 e1 e2 e3 e4 z0 z1 z2 z3 z4 f0 f1 f2 f3 f4 MY wb HRb.o hRW;rw[<- HTL.o.1,<- HTL.o.2.1,<- HTL.o.2.2.1,<- HTL.o.2.2.2.1,<- HTL.o.2.2.2.2]at HSM;rw[<- HTL.o.1]at v0;rw[<- HTL.o.2.1]at v1;rw[<- HTL.o.2.2.1]at v2;rw[<- HTL.o.2.2.2.1]at v3;rw[<- HTL.o.2.2.2.2]at v4;subst hS;clear hEA hbb hAF hbx hRW HEN;go_wp2_with fail;refine qD HSM.o ?_;rintro e wd⟨rfl,hbd⟩;have HBF:=qT HBE hbd;clear hbd;go_wp2_with fail;(try simp only[Exit.inBlock,Exit.then])
       go_ret;exact⟨rfl,HBF.o⟩
     .
      have hSb:(KY==0)=false:=by rw[qg];exact hS
      have hSn:(KY != 0)=true:=by simpa using hS
      have hSc:(KY==KY)=true:=by simp
      have hMZ:MY=I4:=by rw[HP.o.2.2.1];exact ba1 k0 M res (HFI.o HP.o.2.2.2.2) (fun e=>hS (HRK.o.trans e))
      have HSM:=qH (show Calls prog 11 #[.agg #[.slice u0 TN z0,.slice u1 TF z1,.slice u2 TX z2,.slice u3 TP z3,.slice u4 TS z4],.agg #[.slice none 0 0,.slice none 0 0,.slice none 0 0,.slice none 0 0,.slice none 0 0]] wb fun e w'=>e=.returned (.bool true)/\Bq wb w' by
       obtain⟨e0,e1,e2,e3,e4,f0,f1,f2,f3,f4,e,hR⟩:=E7.zero wb
       rw[<- hMZ]at e hR
       have:=F2 u0 u1 u2 u3 u4 e0 e1 e2 e3 e4 z0 z1 z2 z3 z4 f0 f1 f2 f3 f4 MY wb HRb.o hR
       rw[HVY.o,<- e]at this
       exact this)
      clear hEA hbb HEN hMZ;go_wp2_with fail;refine qD HSM.o ?_;rintro e wd⟨rfl,hbd⟩;have HBF:=qT HBE hbd;clear hbd;go_wp2_with fail;(try simp only[Exit.inBlock,Exit.then])
      go_ret;exact⟨rfl,HBF.o⟩
theorem aU0(W:World)(hE:q8 W)(hsh:W.ShapedOpen prog)(an af ax ap aS:Option Addr)(cn cf cx cp cs:Nat)(M:SMach)(h:RMach W an af ax ap aS cn cf cx cp cs M)(hf:FitsM M)(hk:∀n∈M.ns,(Lit.int .i64 n.c.kind).wf=true)(hs:SizeM M)(aq:Option Addr)(cq:Nat)(l:List Int)(hq:Reads W (.slice aq l.length cq) l.length (l.map (Value.int .i64)))(hl:∀z∈l,-9223372036854775808<=z/\z<=9223372036854775807):
 Calls prog 4 #[machV an af ax ap aS M cn cf cx cp cs,.slice aq l.length cq] W fun e w'=>e=.returned (.bool true)/\Bq W w':=
 bs8 an af ax ap aS aq cn cf cx cp cs cq M l W h hf hk hs hq hE hsh
end Go.Proofs.YtmejdflmcikkdaaGreatDoor
