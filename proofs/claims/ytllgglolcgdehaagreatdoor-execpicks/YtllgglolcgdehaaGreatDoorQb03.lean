/- What the developers' Plan of a right line does, and more. -/
import Derived.Test.YtllgglolcgdehaaGreatDoorQAb
import Derived.Laws.AppendOwnNone
import Derived.Shelf.Spec.SlicesInsertGrow
import Derived.Deep.SlicePairs
import Derived.Test.YtllgglolcgdehaaGreatDoorQb02
import Derived.Test.YtllgglolcgdehaaGreatDoorQa26
set_option maxRecDepth 100000
set_option maxHeartbeats 16000000
namespace Go.Proofs.YtllgglolcgdehaaGreatDoor
open Go.RowKit Go.Gs
set_option linter.unusedVariables false
theorem E6.go {w w' w1:World} {B D:Nat} {go:Option Nat} {X:Nat->Prop} {d d2:PD} (h:E6 w w' B D go X d2) (hs:DSt w B D go X d) (hb:Below B w1 w) (hB:B<=w.heap.size):∃go',DSt w' B D go' X d2/\Below B w1 w':=by obtain⟨g',h1,h2,h3⟩:=h;obtain⟨a1,a2,a3⟩:=hs.own;exact⟨g',h1,hb.trans (h2.below hB a3 (fun g hg=>(a1 g hg).1) (fun g hg=>hg.elim))⟩
theorem cr9 (l:SLine) (wn:Nat) (hw:1<=wn/\wn<=5) (af ad:Option Addr) (cf cd:Nat) (w:World) (hf:Reads w (.slice af l.fr.length cf) l.fr.length (l.fr.map S)) (hd:P6 w (.slice ad l.cs.length cd) l.cs) (Ad:Y5 l) (h:lchk l=0) :
 Calls Tryz.prog 28 #[.agg #[.slice af l.fr.length cf,.slice ad l.cs.length cd,.string ⟨l.tu.toArray⟩],.int .i64 (wn:Int)] w fun e w'=>ax6 w (plan l wn,0) e w':=by
 have HC:Hid _:=fun (W:World) (hb:Bq w W)=>af6 l af ad cf cd W (hf.below hb) (hd.below hb) Ad;rw[h] at HC;obtain⟨⟨hn1,hn4,hn6⟩,hwf,hwt,hcs⟩:=av3 h;have HF:=qH hf;have HD:=qH hd;have HCS:=qH hcs;have En:=qH Ad;have HLN:Hid _:=(aT9 hw h);obtain⟨NF,hNF⟩:=qE l.fr.length;obtain⟨ND,hND⟩:=qE l.cs.length;have HNF:=qH hNF;have HND:=qH hND;have hN1:1<=NF:=by omega
 have hN4:NF<=4:=by omega
 have hN6:ND<=6:=by omega
 have hw1:¬(wn:Int)<1:=by omega
 have hw5:¬(5:Int)<(wn:Int):=by omega
 have HDL:Hid (∀k,k<=ND->((N6 wn l.fr (l.cs.take k)).2.length=1\/(N6 wn l.fr (l.cs.take k)).2.length=wn)/\(N6 wn l.fr (l.cs.take k)).1.length<=5+7*k):=(show ∀k,_->_ from fun k hk=>by
  have:=be0 hw hn1 hn4 (l.cs.take k)
  rw[List.length_take,Nat.min_eq_left (by omega)] at this
  exact this)
 rw[<- hNF,<- hND] at HC ⊢;obtain⟨tx,htx⟩:=qE (⟨l.tu.toArray⟩:ByteArray);have HTX:=qH htx;rw[<- htx] at HC ⊢;rw[<- hNF] at HF;rw[<- hND] at HD;obtain⟨i1,hi',hy0,hy1,hy2⟩:=info_parts aI4;clear hf hd Ad h hn1 hn4 hn6 hwf hwt hcs hNF hND htx;go_enter Tryz.func28,Tryz.ntmps28;go_wp2_with fail;refine (HC.out _ V8).mono ?_;rintro e w1 ⟨rfl,hb1⟩;have HBB:Hid (Bq w w1):=V8.trans (hb1.mono (by simp;omega));have HLR:Hid (LR w1 w.heap.size (.slice af NF cf) (.slice ad ND cd) (.string tx)):=LR.start hb1;have hs1:w.heap.size+1<w1.heap.size:=by have:=hb1.size;simp at this;omega
 obtain⟨x0,x1,x2,x3,x4⟩:=HLR.out.cells;have hx0:=(b9 (w:=w1) (o:=.cells #[.slice none 0 0,.slice none 0 0] 144)).cell (bLt w1 _ x0);rw[x0] at hx0;clear hb1 HC x0 x1 x2 x3 x4;go_wp2_with fail;go_loopw [29] (fun i wr=>∃k:Nat,k<=NF/\i=.int .i64 k /\ ∃ov v rows,Hid (SRel w1 wr w1.heap.size l.fr k ov v rows)) (fun i _=>NF-(intOf i).toNat)
 case atStart=>exact⟨0,Nat.zero_le _,rfl,_,_,_,SRel.start w1 l.fr⟩
 case round=>
  clear hx0;obtain⟨k,hk,rfl,ov,v,rows,HS⟩:=hrel;have HBr:Hid (Bq w1 wr):=HS.out.2.2.2.2.2;have Zm:w1.heap.size<wr.heap.size:=L6 HS.out.1;by_cases hlt:k<NF
  .
   obtain⟨s,hs⟩:∃s,l.fr[k]? = some s:=⟨_,gEl (by have:=HNF.out;omega)⟩;obtain⟨b,off,hao,Ac⟩:=(Reads.below HF.out (HBB.out.trans (HBr.out.mono HBB.out.size))).at hs;subst hao;obtain⟨ao,co,hov,ho1,ho2⟩:=ap7 HS.out.2.2.2.1;subst hov;have hrl:rows.length=k:=by
    have h1:=HS.out.2.2.1;have h2:=(ac7 (l.fr.take k) ([],[])).1;have h3:(l.fr.take k).length=k:=by rw[List.length_take];have:=HNF.out;omega
    rw[h3] at h2;have h4:rows.length=(E9 (l.fr.take k)).1.length:=by rw[<- h1];simp
    rw[h4];simpa[E9] using h2
   have HRL:Hid _:=hrl;have Jx:rows.length<=60:=by omega
   have Ea:Hid _:=fun (W2:World) (hb:Bq wr W2)=>HS.out.add hb s Jx;have HST:Hid _:=fun (W2 w4 w5:World) (hb:Bq wr W2) (v4 ov5:Value) (q1:w4.heap[w1.heap.size]? = some (.cells #[v4,.slice ao k co] 144 (0,0))) q2 q6 q7 ow gr bl=>HS.out.step hs (Nat.le_refl _) hb (w4:=w4) (w5:=w5) (v4:=v4) (ov5:=ov5) (r:=(srcN s,none,0)) rfl q1 q2 q6 q7 ow gr bl;have HO4:Hid _:=fun (W2 w4:World) (hb:Bq wr W2) q6=>HS.out.own4 (w4:=w4) hb q6;have HCF:Hid (∀(W:World) (v' vo:Value),W.heap[w1.heap.size]? = some (.cells #[v',vo] 144 (0,0))->W.cell? ⟨w1.heap.size,1,none⟩=some vo/\W.frozen? ⟨w1.heap.size,1,none⟩=false):=(show ∀W v' vo,_->_ from fun W v' vo q=>⟨by rw[cell_of_row _ _ _ _ _ _ q];rfl,frozen_of_row _ _ _ _ _ q⟩);obtain⟨y1,y2⟩:=HCF.out _ _ _ HS.out.1;generalize (⟨s.toArray⟩:ByteArray)=sx at *;clear hs hrl;go_upto_region 10 with fail
   go_region_law (first
    | (refine bH2 rfl 90 #[.pointer (some ⟨w1.heap.size,0,none⟩),.agg #[.int .i64 1,.string sx,.int .i64 0,.string ⟨#[]⟩,.int .i64 0,.int .i64 0,.int .i64 0,.slice none 0 0]] (by go_simp) (Ea.out _ (by first | exact Below.refl _ _ | exact (Below.refl _ _).drew)) ?_;rintro e w4 ⟨v4,b4,rfl,q1,q2,q3,q4,q5,q6,q7⟩;refine⟨_,rfl,?_⟩;have hs4:wr.heap.size<=w4.heap.size:=q6.size;have HO5:Hid _:=HO4.out _ _ (by first | exact Below.refl _ _ | exact (Below.refl _ _).drew) q6;have Jh:Hid _:=fun (w5:World) (ov5:Value) ow gr bl=>HST.out _ w4 w5 (by first | exact Below.refl _ _ | exact (Below.refl _ _).drew) v4 ov5 q1 q2 q6 q7 ow gr bl;have HQ5:Hid _:=aV1 q5;obtain⟨u1,u2⟩:=HCF.out _ _ _ q1)
    | (refine an5 rfl (.tmp 34) (.tmp 37) 71 rfl w1.heap.size 79 i1 _ 2 16 Tryz.underlying71 hi' hy0 hy1 hy2 rfl (by omega) (.slice ao k co) k _ (by simp[Act.eval]) HO5.out ⟨b4,0,none⟩ 1 1 (A8 (l8 rows.length 1)) (by simp[Act.eval]) (by rw[az5,T8]) HQ5.out (aV2 _) (by unfold maxLen;omega) (by omega) (by omega) ?_;intro v5 w5 ow5 gr5 nn5 bl5;obtain⟨HL5,hD5⟩:=Jh.out _ _ ow5 gr5 bl5;obtain⟨z1,z2⟩:=HCF.out _ _ _ hD5;obtain⟨a5,c5,rfl,_,_⟩:=ap7 ow5))
   all_goals
    have HL6:Hid _:=HL5
    clear HL5 hD5 z1 z2 u1 u2 ow5 gr5 nn5 bl5 q1 q2 q3 q4 q5 q6 q7 HO5 Jh HQ5 Ea HST HO4 y1 y2
    go_wp2_with fail
    go_roundw
    case rel=>exact⟨k+1,by omega,by go_num,_,_,_,HL6.out⟩
    case measure=>simp[intOf];omega
  .
   have hkN:NF=k:=by omega
   have HST:Hid (DSt wr w1.heap.size w1.heap.size v.ownBlock noX (E9 l.fr)):=HS.out.done (by rw[<- HNF.out];exact hkN.symm);have hl60:(E9 l.fr).1.length<=60:=by have h2:=(ac7 l.fr ([],[])).1;have:=HNF.out;unfold E9;simp only[List.length_nil] at h2;omega
   have HBH:Hid _:=aU9 w1.heap.size w1.heap.size v.ownBlock noX (E9 l.fr) wr HST.out hl60 (by omega);have HBG:Hid _:=fun (w':World) (h:E6 wr w' w1.heap.size w1.heap.size v.ownBlock noX (G9 (E9 l.fr)))=>h.go HST.out HBr.out (by omega);clear HS hl60 HST;go_wp2_with fail;refine Calls.mono HBH.out ?_;rintro e w5 ⟨rfl,hst⟩;obtain⟨go5,S5,B5⟩:=HBG.out _ hst;have HS5:=qH S5;have HB5:=qH B5;obtain⟨x0,x1,x2,x3,x4⟩:=(HLR.out.below HB5.out hs1).cells;clear hst HBH HBG S5 B5 HBr Zm hkN hk x0 x2 x3 x4;go_wp2_with fail;go_loopw [45] (fun i wr=>∃k:Nat,k<=ND/\i=.int .i64 k /\ ∃go,Hid (DSt wr w1.heap.size w1.heap.size go noX (N6 wn l.fr (l.cs.take k)))/\Hid (Bq w1 wr)) (fun i _=>ND-(intOf i).toNat)
   case atStart=>exact⟨0,Nat.zero_le _,rfl,_,HS5,HB5⟩
   case round=>
    clear HS5 HB5 x1;obtain⟨j,hj,rfl,go,HS,HBr⟩:=hrel;obtain⟨hgo,hDl,_⟩:=HS.out.own;by_cases Hu:j<ND
    . obtain⟨c,hc⟩:∃c,l.cs[j]? = some c:=⟨_,gEl (by have:=HND.out;omega)⟩;obtain⟨b,off,hao,c0,c1,c2⟩:=(P6.below HD.out (HBB.out.trans (HBr.out.mono HBB.out.size))).at hc;subst hao;have hcm:=mGt hc;have HCM:Hid _:=fun (W2:World) (hb:Bq wr W2)=>bH1 c (HCS.out c hcm) (En.out.2.1 c hcm) wn hw w1.heap.size w1.heap.size go (N6 wn l.fr (l.cs.take j)) W2 (HS.out.below hb) (by have:=(HDL.out j hj).2;omega) (HDL.out j hj).1 (by have:=hb.size;omega);have HG:Hid _:=fun (W2 w':World) (hb:Bq wr W2) (h:E6 W2 w' w1.heap.size w1.heap.size go noX (pCmd wn (N6 wn l.fr (l.cs.take j)) c))=>h.go (HS.out.below hb) (HBr.out.trans (hb.mono (by omega))) (by have:=hb.size;omega);have hnx:pCmd wn (N6 wn l.fr (l.cs.take j)) c=N6 wn l.fr (l.cs.take (j+1)):=by rw[List.take_add_one,hc,Option.toList_some,bF8]
      rw[hnx] at HCM HG;unfold Cmd.v at HCM;generalize (⟨c.word.toArray⟩:ByteArray)=wx at *;generalize c.kind=ck at *;generalize c.n=cn at *;clear hc hcm hnx HS HBr;go_wp2_with fail;refine Calls.mono (HCM.out _ b9) ?_;rintro e w6 ⟨rfl,hst⟩;obtain⟨go6,S6,B6⟩:=HG.out _ _ b9 hst;have HS6:Hid _:=S6;have HB6:Hid _:=B6;clear hst HCM HG S6 B6 c0 c1 c2;go_wp2_with fail;go_roundw
      case rel=>exact⟨j+1,by omega,by go_num,_,HS6,HB6⟩
      case measure=>simp[intOf];omega
    .
     have hjN:ND=j:=by omega
     have Ae:l.cs.take j=l.cs:=by rw[<- hjN,HND.out,List.take_length]
     rw[Ae] at HS;have hlen:=HDL.out j hj;rw[Ae] at hlen;have HBH:Hid _:=aU9 w1.heap.size w1.heap.size go noX (N6 wn l.fr l.cs) wr HS.out (by omega) (by omega);have HBG:Hid _:=fun (w':World) (h:E6 wr w' w1.heap.size w1.heap.size go noX (G9 (N6 wn l.fr l.cs)))=>h.go HS.out HBr.out (by omega);clear HS HBr hlen Ae;go_wp2_with fail;refine Calls.mono HBH.out ?_;rintro e w7 ⟨rfl,hst⟩;obtain⟨go7,⟨v7,rows7,ao7,co7,e7,hD7,hN7,Jm,hP7,_,_⟩,B7⟩:=HBG.out _ hst;have HB7:=qH B7;have hs7:=B7.size;have h49:=HLN.out.1;have h1p:=HLN.out.2;have hpl:(plan l wn).length=rows7.length+1:=by unfold plan az3;rw[<- Jm];simp
     have Tq:plan l wn=(rows7++[(ae2 l.tu (G9 (N6 wn l.fr l.cs)).2,ao7,co7)]).map (·.1):=by unfold plan az3;rw[<- Jm];simp
     have Ee:=aU6 (ae2 l.tu (G9 (N6 wn l.fr l.cs)).2) ao7 co7 w1.heap.size w1.heap.size noX v7 (.slice ao7 (G9 (N6 wn l.fr l.cs)).2.length co7) rows7 w7 0 rfl (by omega) hD7 hN7 hP7 (by omega) (Nat.le_refl _) (by omega);have hnv:D2 (ae2 l.tu (G9 (N6 wn l.fr l.cs)).2) ao7 (ae2 l.tu (G9 (N6 wn l.fr l.cs)).2).ins.length co7=.agg #[.int .i64 5,.string tx,.int .i64 0,.string ⟨#[]⟩,.int .i64 0,.int .i64 0,.int .i64 0,.slice ao7 1 co7]:=by rw[show (ae2 l.tu (G9 (N6 wn l.fr l.cs)).2).ins.length=1 from h1p,HTX.out];rfl
     rw[hnv] at Ee;have Ea:Hid _:=Ee;have HB8:Hid _:=fun (w':World) (h:Kept w1.heap.size v7.ownBlock noX w7 w')=>(show Bq w1 w' from B7.trans (h.below (by omega) (Nat.le_refl _) (fun g hg=>(hN7.base g hg).1) (fun g hg=>hg.elim)));clear Ee hnv;rw[h1p] at hD7;have hc1:w7.cell? ⟨w1.heap.size,1,none⟩=some (.slice ao7 1 co7):=by rw[cell_of_row _ _ _ _ _ _ hD7];rfl
     obtain⟨x0,x1,x2,x3,x4⟩:=(HLR.out.below B7 hs1).cells;have HPL:Hid _:=Tq;have HPN:Hid _:=hpl;clear hst HBH HBG Tq hpl hN7 hP7 Jm hD7 B7 HLN h49;go_wp2_with fail;refine Calls.mono Ea.out ?_;rintro e w8 ⟨v8,b8,rfl,q1,q2,q3,q4,q5,q6,q7⟩;have hb8:=HB8.out _ q6;obtain⟨a8,c8,hv8,_,_⟩:=q2.form;have hl8:(rows7++[(ae2 l.tu (G9 (N6 wn l.fr l.cs)).2,ao7,co7)]).length=(plan l wn).length:=by rw[HPN.out];simp
     rw[hl8] at hv8;subst hv8;have d0:w8.cell? ⟨w1.heap.size,0,none⟩=some (.slice a8 (plan l wn).length c8):=by rw[cell_of_row _ _ _ _ _ _ q1];rfl
     obtain⟨y0,y1,y2,y3,y4⟩:=(HLR.out.below hb8 hs1).cells;have hrn:=(NO.setR q2 (a:=⟨w.heap.size+1,0,none⟩) hs1 y3 (.slice a8 (plan l wn).length c8)).nodes;rw[<- HPL.out] at hrn;have HRN:Hid _:=hrn;have HBF:Hid (Bq w (w8.setCell ⟨w.heap.size+1,0,none⟩ (.slice a8 (plan l wn).length c8))):=(HBB.out.trans (hb8.mono HBB.out.size)).setCell (by simp) _;clear q1 q2 q3 q4 q5 q6 q7 hb8 hrn Ea HB8 HPL HPN hl8 x0 x1 x2 x3 x4 hc1;go_wp2_with fail;(try simp only[Exit.inBlock,Exit.then])
     refine bodyPost_ret (v:=.tuple #[.agg #[.slice a8 (plan l wn).length c8],.int .i64 0]) ?_ rfl ⟨a8,c8,rfl,HRN.out,HBF.out⟩;rw[results_cell_tmp rfl];go_simp
theorem bm5 (l:SLine) (W:Int) (af ad:Option Addr) (cf cd:Nat) (w:World) (hf:Reads w (.slice af l.fr.length cf) l.fr.length (l.fr.map S)) (hd:P6 w (.slice ad l.cs.length cd) l.cs) (Ad:Y5 l) :
 Calls Tryz.prog 28 #[.agg #[.slice af l.fr.length cf,.slice ad l.cs.length cd,.string ⟨l.tu.toArray⟩],.int .i64 W] w fun e w'=>ax6 w (o4 l W) e w':=by
 by_cases h:lchk l≠0\/W<1\/5<W
 . exact cj5 l W af ad cf cd w hf hd Ad h
 . have h0:lchk l=0:=by by_cases e:lchk l=0;exact e;exact absurd (Or.inl e) h
   have h1:¬(W<1\/5<W):=fun e=>h (Or.inr e);obtain⟨n,rfl⟩:=Int.eq_ofNat_of_zero_le (show 0<=W by omega);rw[av8 h0 h1];exact cr9 l n (by omega) af ad cf cd w hf hd Ad h0
end Go.Proofs.YtllgglolcgdehaaGreatDoor
namespace Go.Gs
open Go.RowKit
set_option linter.unusedVariables false
theorem wordlen {s:List UInt8} (h:isWord s=true):s.length<=12:=by unfold isWord at h;simp at h;omega
theorem aN0 {c:Cmd} (h:chk c=0):c.word.length<=12:=by
 unfold chk at h;split at h
 . cases h
 .
  split at h
  . cases h
  .
   rename_i h1 h2;split at h
   . cases h
   .
    split at h
    . cases h
    .
     rename_i h3 h4;by_cases hu:uses c.kind=1
     . have:isWord c.word=true:=by
        cases hw:isWord c.word with
        | true=>rfl
        | false=>exact absurd ⟨hu,Or.inl hw⟩ h4
       exact wordlen this
     . have:c.word=[]:=by
        by_cases e:c.word=[]
        . exact e
        . exact absurd (Or.inl ⟨hu,e⟩) h2
       rw[this];simp
theorem cl1 {k:Nat} (h:k<=1000):(Lit.int .i64 (k:Int)).wf=true:=by simp[Lit.wf,IntKind.min,IntKind.max,IntKind.signed,IntKind.bits];omega
theorem right_fits {ns:List SNode} (h:gchk ns=0) {n:SNode} (hn:n∈ns):M4 n:=by
 obtain⟨k,hk⟩:=List.getElem?_of_mem hn;have h60:=(al6 h).1;obtain⟨r1,r2,r3,r4⟩:=ah3 (fs:=[]) h (fun f hf=>by cases hf) hk;obtain⟨q1,q2,q3⟩:=G8 r1;have We:∀m∈ns,nouts m<=5:=by
  intro m hm;obtain⟨j,hj⟩:=List.getElem?_of_mem hm;obtain⟨m1,_⟩:=ah3 (fs:=[]) h (fun f hf=>by cases hf) hj;have:=I9 (G8 m1).1;unfold nouts;split
  . rcases this with ⟨a | a,_⟩ | ⟨_,_,a⟩ | ⟨a,_⟩ | ⟨a,_⟩ <;> omega
  . split <;> omega
 refine⟨?_,?_,?_⟩
 .
  unfold I5 at q3;simp only[Bool.or_eq_false_iff,Bool.and_eq_false_iff,Bool.not_eq_false',decide_eq_true_eq] at q3;rcases q3.1.1.1 with a | a
  . rcases I9 q1 with ⟨_,b⟩ | ⟨b,_⟩ | ⟨b,_⟩ | ⟨b,_⟩
    . have:=wordlen b;omega
    . omega
    . omega
    . omega
  . rw[List.isEmpty_iff.1 a];simp
 .
  have hz:ba0 n.c=true->n.c.word.length<=12:=by intro hz;unfold ba0 at hz;simp at hz;rw[hz.1.2];simp
  have:n.c.word.length<=12:=by
   unfold I5 at q3;simp only[Bool.or_eq_false_iff,Bool.and_eq_false_iff,Bool.not_eq_false',decide_eq_true_eq] at q3;rcases q3.1.2 with a | a
   .
    rcases I9 q1 with ⟨b,_⟩ | ⟨b,_⟩ | ⟨_,b⟩ | ⟨_,b⟩
    . omega
    . omega
    . exact aN0 b
    .
     unfold jchk at b;split at b
     . cases b
     . split at b
       . exact aN0 b
       . split at b
         . rename_i hh;rw[hh.2.1];simp
         . cases b
   . exact hz a
  omega
 . intro p hp;obtain⟨i,j,m,rfl,hi,hj⟩:=U1 (r2 p hp);have hi':i<ns.length:=by have:=(gSm hi).1;rw[List.length_take] at this;omega
   have hm:m∈ns:=List.mem_of_mem_take (mGt hi);have:=We m hm;exact⟨cl1 (by omega),cl1 (by omega)⟩
end Go.Gs
namespace Go.Proofs.YtllgglolcgdehaaGreatDoor
open Go.RowKit Go.Gs Go.Maps
set_option linter.unusedVariables false
theorem aW4 (k:Int) (n:Nat) (w:World) (hk1:-9223372036854775808<=k) (hk2:k<=9223372036854775807) (hn1:1<=n) (hn2:n<=100000) :
 Calls Tryz.prog 32 #[.int .i64 k,.int .i64 n] w fun e w'=>e=.returned (.int .i64 (k % (n:Int)))/\w'=w:=by
 have h0:¬((n:Int)=0):=by omega
 have h1:k.tmod n<n:=Int.tmod_lt_of_pos k (by omega);have h2:-(n:Int)<k.tmod n:=by have:=Int.lt_tmod_of_pos k (show (0:Int)<n by omega);omega
 have HD:Hid (k % (n:Int)=if k.tmod n<0 then k.tmod n+n else k.tmod n):=(show _=_ by
  have e:=Int.mul_tdiv_add_tmod k n
  split
  . have e2:k % (n:Int)=((k.tmod n+n)+n*(k.tdiv n-1)) % (n:Int):=by
     congr 1
     rw[Int.mul_sub,Int.mul_one]
     omega
    rw[e2,Int.add_mul_emod_self_left,Int.emod_eq_of_lt (by omega) (by omega)]
  . have e2:k % (n:Int)=(k.tmod n+n*k.tdiv n) % (n:Int):=by
     congr 1
     omega
    rw[e2,Int.add_mul_emod_self_left,Int.emod_eq_of_lt (by omega) (by omega)])
 go_enter Tryz.func32,Tryz.ntmps32;go_wp2_with fail
 . go_ret;rename_i h3;exact⟨by rw[HD.out,if_pos h3];rfl,rfl⟩
 . go_ret;rename_i h3;exact⟨by rw[HD.out,if_neg (by omega)];rfl,rfl⟩
end Go.Proofs.YtllgglolcgdehaaGreatDoor
namespace Go.Gs
open Go.RowKit Go.ChangeShapes Go.WideShapes Go.ChangeAt
set_option linter.unusedVariables false
variable {P:Program} {H:Type} {enc:TypeId × Value->H} {W:World} {base:Nat} {held:Bool} {fuel:Nat} {t e:TypeId} {a:Option Addr} {len cap:Nat} {x:DataW H × List MemPlace}
theorem aF5 (ht:P.underlying t=some (.slice e)) (he:P.underlying e=some .string) (hc:P.cellsOf e=1)
 (hf:DataW.trod enc P W base (fun _=>true) held fuel t [.slice a len cap]=some x) :
 ∃ls:List (List UInt8),ls.length=len/\Reads W (.slice a len cap) ls.length (ls.map S) /\ ∀s∈ls,s.length<=9223372036854775807:=by
 rcases open_strings ht he hc hf with ⟨hcs,_⟩ | ⟨ad,l,c,ss,hcs,_,hl,hm,hz,_,Ac,hwz⟩
 . simp at hcs;obtain⟨rfl,rfl,rfl⟩:=hcs;exact⟨[],rfl,⟨rfl,none,0,rfl,Nat.le_refl _,by simp,fun h=>absurd rfl h⟩,by simp⟩
 .
  simp at hcs;obtain⟨rfl,rfl,rfl⟩:=hcs;have hz':ss.length=cap:=by simpa using hz
  have hbl:((ss.take len).map (fun s=>s.data.toList)).length=len:=by simp;omega
  refine⟨(ss.take len).map (fun s=>s.data.toList),hbl,⟨by simp,some ad,cap,by rw[hbl],by omega,hm,fun h0=>?_⟩,?_⟩
  .
   rw[hbl] at h0;obtain⟨b,off,spot⟩:=ad;have h00:=Ac 0 (by omega);have Br:spot=none:=by simpa[Addr.add] using World.cell?_spot h00
   subst Br;refine⟨b,off,rfl,fun j u hu=>?_⟩;have hj:j<len:=by have:=(gSm hu).1;simp at this;omega
   have hjz:j<ss.length:=by omega
   have hcj:=Ac j hjz;rw[add_plain] at hcj;rw[hcj];simp only[List.map_map,List.getElem?_map,List.getElem?_take,hj,if_true,gEl hjz,Option.map_some,Function.comp_apply,Option.some.injEq] at hu;rw[<- hu];simp[hjz,S]
  . intro s hs;simp only[List.mem_map] at hs;obtain⟨y,hy,rfl⟩:=hs;have h1:y.size<=maxLen:=hwz y (List.mem_of_mem_take hy);have h2:y.data.toList.length=y.size:=Array.length_toList;unfold maxLen at h1;omega
end Go.Gs
namespace Go.Proofs.YtllgglolcgdehaaGreatDoor
open Go.RowKit Go.Gs
set_option linter.unusedVariables false
def C5 (fs:List SFile) (fr:List (List UInt8)):List UInt8 × Int:=if fchk fs=0 then gather fs fr else ([],fchk fs)
theorem aZ2 {fs:List SFile} {fr:List (List UInt8)} {k:Nat} {s:List UInt8} (h:fr[k]? = some s):l5 fs (fr.take (k+1))=l5 fs (fr.take k)++lines (D8 fs s):=by rw[List.take_add_one,h,Option.toList_some,aY8]
theorem bX7 {fs:List SFile} {p:Option (List UInt8)} (h:q8 p fs=0) (n:List UInt8):(D8 fs n).length<=4000:=by
 cases ht:E3 fs n with
 | true=>
  obtain⟨f,hf,_⟩:=aw9 ht
  rw[ap5 h ht hf]
  exact (J2 h f (mGt hf)).2
 | false=>rw[aE0 h ht];simp
theorem aF6 {fs:List SFile} {p:Option (List UInt8)} (h:q8 p fs=0):∀(fr:List (List UInt8)),(l5 fs fr).length<=fr.length*4000 /\ ∀s∈l5 fs fr,s.length<=4001
 | []=>by simp[l5]
 | n::r=>by
  obtain⟨h1,h2⟩:=aF6 h r
  rw[show l5 fs (n::r)=lines (D8 fs n)++l5 fs r from rfl]
  have h3:=G5 (D8 fs n)
  have h4:=bX7 h n
  refine⟨by rw[List.length_append,List.length_cons];omega,fun s hs=>?_⟩
  rcases List.mem_append.1 hs with hs | hs
  .
   have h5:=E5 (D8 fs n)
   have h6:s.length<=(ended (lines (D8 fs n))).length:=by
    obtain⟨a,b,e⟩:=List.append_of_mem hs
    rw[e]
    simp[ended]
    omega
   omega
  . exact h2 s hs
theorem cx8 {l:List (List UInt8)}:∀u∈l.map S,u.oneCell'=true:=by intro u hu;obtain⟨x,_,rfl⟩:=List.mem_map.1 hu;rfl
theorem aN1 {w w':World} {base:Nat} {e:TypeId} {size:Nat} {v:Value} {n:Nat} {xs:List Value} (h:w.ownsRow base e size v n xs) (hb:Bq w w'):w'.ownsRow base e size v n xs:=
 h.kept (row:=none) ⟨hb.os,hb.tape,hb.output,hb.size,fun k hk _=>hb.block k hk⟩ (by cases hv:v.ownBlock <;> simp)
theorem bf4 (ao af:Option Addr) (cap cf:Nat) (fs:List SFile) (fr:List (List UInt8)) (w:World) (hf:j9 w (.slice ao fs.length cap) fs) (Ad:∀f∈fs,M3 f) (hfr:Reads w (.slice af fr.length cf) fr.length (fr.map S)) :
 Calls Tryz.prog 104 #[.slice ao fs.length cap,.slice af fr.length cf] w fun e w'=>ah7 w (C5 fs fr) e w':=by
 have HC:Hid _:=aa9 ao cap fs w hf Ad;have HF:=qH hf;have HFR:=qH hfr;have hfl:=am3 hfr;obtain⟨N,hN⟩:=qE fs.length;have HN:=qH hN;obtain⟨L,hL⟩:=qE fr.length;have HL:=qH hL;obtain⟨ck,hck⟩:=qE (fchk fs);have HCK:=qH hck;rw[<- hN,<- hck] at HC;rw[<- hN,<- hL];rw[<- hL] at hfl HFR;clear hf Ad hfr hN hck hL;by_cases h0:ck=0
 .
  subst h0;have HGT:Hid (C5 fs fr=gather fs fr):=(show _=_ by unfold C5;rw[if_pos HCK.out.symm]);obtain⟨Ff,hri⟩:=I0 HCK.out.symm;have HRI:Hid _:=hri;have HL12:Hid _:=Ff;clear hri;rw[<- HN.out] at Ff;by_cases hl4:4<L
  . have HR:Hid (C5 fs fr=([],2)):=(show _=_ by rw[HGT.out];unfold gather;rw[if_pos (by have:=HL.out;omega)]);have hq:(4:Int)<L:=by omega
    go_enter Tryz.func104,Tryz.ntmps104;go_wp2_with fail;refine Calls.mono HC.out ?_;rintro e w1 ⟨rfl,hb1⟩;have HB1:=qH hb1;clear hb1 HC;go_wp2_with fail;go_ret2;exact N8 HR.out rfl HB1.out
  .
   have hq:¬(4:Int)<L:=by omega
   have HGA:Hid _:=be5 fs fr (by have:=HL.out;omega);have HFEW:Hid _:=fun (k:Nat)=>aF6 HRI.out (fr.take k);obtain⟨i0,hi,hi0,hi1,hi2⟩:=info_parts aO3;go_enter Tryz.func104,Tryz.ntmps104;go_wp2_with fail;refine Calls.mono HC.out ?_;rintro e w1 ⟨rfl,hb1⟩;have HB1:=qH hb1;clear hb1 HC;go_wp2_with fail;go_loopw [7,24] (fun lv i wr=>∃k:Nat,∃al nl cl,k<=L/\i=.int .i64 k/\lv=.slice al nl cl/\Hid (nl=(l5 fs (fr.take k)).length)/\Hid (wr.ownsRow w.heap.size 9 1 (.slice al nl cl) nl ((l5 fs (fr.take k)).map S))/\Hid (Bq w wr)) (fun _ i _=>L-(intOf i).toNat)
   case atStart=>exact⟨0,none,0,0,Nat.zero_le _,rfl,rfl,(show _=_ from rfl),World.ownsRow_nil _ _ _ _,HB1⟩
   case round=>
    clear HB1;obtain⟨k,al,nl,cl,hk,rfl,rfl,HNL,HOW,Aa⟩:=hrel;by_cases hlt:k<L
    .
     obtain⟨s,hs⟩:∃s,fr[k]? = some s:=⟨_,gEl (by have:=HL.out;omega)⟩;obtain⟨bf,of,rfl,hcs⟩:=(Reads.below HFR.out Aa.out).at hs;have HFI:Hid _:=bl6 ao cap fs s wr (HF.out.below Aa.out) HRI.out HL12.out;rw[<- HN.out] at HFI;have HTK:Hid (l5 fs (fr.take (k+1))=l5 fs (fr.take k)++lines (D8 fs s)):=aZ2 hs;obtain⟨p,hp⟩:=qE (K2 fs s);have HP:=qH hp;obtain⟨t,ht⟩:=qE (E3 fs s);have HT:=qH ht;rw[<- hp,<- ht] at HFI;generalize (⟨s.toArray⟩:ByteArray)=sx at *;clear hs hp ht;go_wp2_with fail;refine Calls.mono HFI.out ?_;rintro e w2 ⟨rfl,hb2⟩;have HB2:Hid (Bq w w2):=Aa.out.trans (hb2.mono Aa.out.size);have HO2:Hid (w2.ownsRow w.heap.size 9 1 (.slice al nl cl) nl ((l5 fs (fr.take k)).map S)):=aN1 HOW.out hb2;clear hb2 HFI HOW hcs
     cases t with
     | false=>
      have HE:Hid (l5 fs (fr.take (k+1))=l5 fs (fr.take k)):=(show _=_ by rw[HTK.out,aE0 HRI.out HT.out.symm];simp[lines,x9])
      go_wp2_with fail
      go_roundw
      case rel=>exact⟨k+1,_,_,_,by omega,by go_num,rfl,(show _=_ by rw[HE.out];exact HNL.out),(show World.ownsRow _ _ _ _ _ _ _ by rw[HE.out];exact HO2.out),HB2⟩
      case measure=>simp[intOf];omega
     | true=>
      obtain⟨f,hfk,hfn⟩:=aw9 HT.out.symm
      have hfo:=ap5 HRI.out HT.out.symm hfk
      rw[<- HP.out] at hfk
      have hpN:p<N:=by have:=(gSm hfk).1;rw[HN.out];exact this
      obtain⟨b,off,ab,cb,rfl,hc0,hc1,hrr⟩:=(j9.below HF.out HB2.out).at hfk
      have hb4:=(J2 HRI.out f (mGt hfk)).2
      have HOF:Hid _:=bv0 (.slice ab f.b.length cb) f.b w2 hrr hb4
      have Wg:Hid (l5 fs (fr.take (k+1))=l5 fs (fr.take k)++lines f.b):=(show _=_ by rw[HTK.out,hfo])
      have hm4:(lines f.b).length<=4000:=Nat.le_trans (G5 _) hb4
      obtain⟨FL,hFL⟩:=qE f.b.length
      rw[<- hFL] at hc1 HOF
      obtain⟨ML,hML⟩:=qE (lines f.b)
      have HML:=qH hML
      rw[<- hML] at HOF Wg hm4
      generalize (⟨f.name.toArray⟩:ByteArray)=fx at *
      clear hfk hfn hfo hrr hb4 hFL hML HTK
      go_wp2_with fail
      refine Calls.mono HOF.out ?_
      rintro e w3 ⟨r,rfl,Ab,hb3⟩
      have HB3:Hid (Bq w w3):=HB2.out.trans (hb3.mono HB2.out.size)
      have HO3:Hid (w3.ownsRow w.heap.size 9 1 (.slice al nl cl) nl ((l5 fs (fr.take k)).map S)):=aN1 HO2.out hb3
      have HW3:Hid (w.heap.size<=w3.heap.size):=HB3.out.size
      have hn4:nl<=16000:=by
       have:=(HFEW.out k).1
       rw[<- HNL.out,List.length_take] at this
       have:min k fr.length<=4:=by omega
       omega
      obtain⟨mm,hmm⟩:=qE ML.length
      have HMM:=qH hmm
      rw[<- hmm] at Ab hm4
      obtain⟨zs,hzs⟩:=qE (ML.map S)
      have HZ:=qH hzs
      rw[<- hzs] at Ab
      obtain⟨ys,hys⟩:=qE ((l5 fs (fr.take k)).map S)
      have HY:=qH hys
      rw[<- hys] at HO3
      have HNL2:Hid (nl+mm=(l5 fs (fr.take (k+1))).length):=(show _=_ by rw[Wg.out,List.length_append,<- HNL.out,<- HMM.out])
      have HYZ:Hid ((l5 fs (fr.take (k+1))).map S=ys++zs):=(show _=_ by rw[Wg.out,List.map_append,HY.out,HZ.out])
      rcases Ab.2 with ⟨rfl,h00⟩ | ⟨g,cg,cur,rfl,hbg,hgg,_,_,_,htk⟩
      . have hz0:zs=[]:=by have:=Ab.1;rw[h00] at this;exact List.eq_nil_of_length_eq_zero (by omega)
        subst h00
        have HZ0:=qH hz0
        clear Ab hb3 HOF HO2 hmm hzs hys hc0 hc1 hz0
        go_wp2_with (at_builtin;refine wpList_append_own_none rfl (.tmp 48) (.tmp 49) 53 rfl w.heap.size 9 i0 1 Tryz.underlying53 hi _ nl ys rfl HO3.out rfl ?_)
        go_roundw
        case rel=>exact⟨k+1,_,_,_,by omega,by go_num,rfl,(show _=_ from HNL2.out),(show World.ownsRow _ _ _ _ _ _ _ by rw[HYZ.out,HZ0.out,List.append_nil];exact HO3.out),HB3⟩
        case measure=>simp[intOf];omega
      .
       have HCE:Hid (∀j u,zs[j]? = some u->w3.cell? ((⟨g,0,none⟩:Addr).add j)=some u):=Ab.cells rfl
       clear Ab hb3 HOF HO2 hmm hzs hys hc0 hc1 htk hgg hbg
       go_wp2_with (at_builtin;refine wpList_append_own _ rfl (.tmp 48) (.tmp 49) 53 rfl w.heap.size 9 i0 (.string ⟨#[]⟩) 1 16 Tryz.underlying53 hi hi0 hi1 hi2 rfl (by decide) _ nl ys rfl HO3.out ⟨g,0,none⟩ mm cg zs rfl ?c0 ?c1 ?c2 ?c3 ?c4 ?c5 ?_)
       case c0=>rw[HZ.out,List.length_map,<- HMM.out,Nat.mul_one]
       case c1=>exact HCE.out
       case c2=>rw[HZ.out];exact cx8
       case c3=>unfold maxLen;omega
       case c4=>omega
       case c5=>exact HW3.out
       .
        intro v' w9 Ab Eb _
        have hle9:∃a9 c9,v'=.slice a9 (nl+mm) c9:=by
         rcases Ab.2 with ⟨rfl,h0⟩ | ⟨g',c',cur',rfl,_⟩
         . exact⟨none,0,by rw[h0]⟩
         . exact⟨_,c',rfl⟩
        obtain⟨a9,c9,rfl⟩:=hle9
        have HO9:Hid (w9.ownsRow w.heap.size 9 1 (.slice a9 (nl+mm) c9) (nl+mm) ((l5 fs (fr.take (k+1))).map S)):=(show World.ownsRow _ _ _ _ _ _ _ by rw[HYZ.out];exact Ab)
        have HB9:Hid (Bq w w9):=HB3.out.grown Eb HW3.out (fun q hq=>(HO3.out.lt q hq).1)
        clear Ab Eb HO3
        go_wp2_with fail
        go_roundw
        case rel=>exact⟨k+1,_,_,_,by omega,by go_num,rfl,HNL2,HO9,HB9⟩
        case measure=>simp[intOf];omega
    .
     have hkL:k=L:=by omega
     have HA:Hid (fr.take k=fr):=(show _=_ from List.take_of_length_le (by have:=HL.out;omega));have hrd:=Reads.of_owns HOW.out;have Qx:=(HFEW.out k).2;rw[HA.out] at hrd Qx;have hnl:=HNL.out;rw[HA.out] at hnl;have HBY:Hid _:=bv5 (.slice al nl cl) (l5 fs fr) wr (by rw[<- hnl];exact hrd) (fun s hs=>Nat.le_trans (Qx s hs) (by omega));clear hrd Qx hnl;go_wp2_with fail;refine Calls.mono HBY.out ?_;rintro e w2 (⟨hbd,rfl,rfl⟩ | ⟨hbd,r,rfl,Ab,hb2⟩)
     . have HR:Hid (C5 fs fr=([],bad 4000 (l5 fs fr))):=(show _=_ by rw[HGT.out,HGA.out,if_neg hbd]);generalize bad 4000 (l5 fs fr)=bd at *;go_wp2_with fail;go_ret2;exact N8 HR.out rfl Aa.out
     . have HR:Hid (C5 fs fr=(ended (l5 fs fr),0)):=(show _=_ by rw[HGT.out,HGA.out,if_pos hbd]);have HB2:Hid (Bq w w2):=Aa.out.trans (hb2.mono Aa.out.size);have hrd:=Reads.of_owns Ab;obtain⟨a3,c3,rfl,_,_⟩:=hrd.shape;have HRD:Hid _:=hrd;obtain⟨EN,hEN⟩:=qE ((ended (l5 fs fr)).length);have HEN:=qH hEN;rw[<- hEN];clear hrd Ab hb2 hbd hEN HBY;go_wp2_with fail;go_ret2;refine⟨a3,c3,?_,?_,HB2.out⟩
       . rw[HR.out,<- HEN.out];rfl
       . rw[HR.out];exact HRD.out
 . have HR:Hid (C5 fs fr=([],ck)):=(show _=_ by unfold C5;rw[<- HCK.out,if_neg h0]);go_enter Tryz.func104,Tryz.ntmps104;go_wp2_with fail;refine Calls.mono HC.out ?_;rintro e w1 ⟨rfl,hb1⟩;have HB1:=qH hb1;clear hb1 HC;go_wp2_with fail;go_ret2;exact N8 HR.out rfl HB1.out
def Y6 (fs:List SFile) (x:SLine):List UInt8 × Int:=if lchk x=0 then (if fchk fs=0 then A3 fs x else ([],fchk fs)) else ([],lchk x)
theorem bX8 {fs:List SFile} {x:SLine} (h:lchk x≠0):Y6 fs x=([],lchk x):=by unfold Y6;rw[if_neg h]
theorem bX9 {fs:List SFile} {x:SLine} (h:lchk x=0) (hg:(C5 fs x.fr).2≠0):Y6 fs x=([],(C5 fs x.fr).2):=by
 unfold Y6;rw[if_pos h];unfold C5 at hg ⊢;by_cases hf:fchk fs=0
 . rw[if_pos hf] at hg ⊢;rw[if_pos hf];unfold A3;rw[if_neg hg]
 . rw[if_neg hf,if_neg hf]
theorem cl2 {fs:List SFile} {x:SLine} (h:lchk x=0) (hg:(C5 fs x.fr).2=0):Y6 fs x=(aa8 x.cs (C5 fs x.fr).1,0):=by
 unfold Y6;rw[if_pos h];unfold C5 at hg ⊢;by_cases hf:fchk fs=0
 . rw[if_pos hf] at hg ⊢;rw[if_pos hf];unfold A3;rw[if_pos hg]
 . rw[if_neg hf] at hg;exact absurd hg hf
theorem aZ3 (fs:List SFile) (fr:List (List UInt8)):(C5 fs fr).1.length<=4000/\whole (C5 fs fr).1:=by
 unfold C5;split
 . exact⟨(aE8 fs fr).2,(aE8 fs fr).1⟩
 . exact⟨by simp,ax5⟩
theorem bI4 {cs:List Cmd} {k:Nat} {c:Cmd} (h:cs[k]? = some c) (b:List UInt8):aa8 (cs.take (k+1)) b=aq8 c (aa8 (cs.take k) b):=by rw[List.take_add_one,h,Option.toList_some,bk8];rfl
theorem bM6 (x:SLine) (ao af ad:Option Addr) (cap cf cd:Nat) (fs:List SFile) (w:World) (hf:j9 w (.slice ao fs.length cap) fs) (Ad:∀f∈fs,M3 f) (hfr:Reads w (.slice af x.fr.length cf) x.fr.length (x.fr.map S)) (hcs:P6 w (.slice ad x.cs.length cd) x.cs) (hfx:Y5 x) (hK:aa6 w) :
 Calls Tryz.prog 40 #[.slice ao fs.length cap,.agg #[.slice af x.fr.length cf,.slice ad x.cs.length cd,.string ⟨x.tu.toArray⟩]] w fun e w'=>ah7 w (Y6 fs x) e w':=by
 have HC:Hid _:=fun (W:World) (hb:Bq w W)=>af6 x af ad cf cd W (hfr.below hb) (hcs.below hb) hfx;have HG:Hid _:=fun (W:World) (hb:Bq w W)=>bf4 ao af cap cf fs x.fr W (hf.below hb) Ad (hfr.below hb);have HD:=qH hcs;have HK:=qH hK;have HX:=qH hfx;obtain⟨N,hN⟩:=qE fs.length;obtain⟨NF,hNF⟩:=qE x.fr.length;obtain⟨ND,hND⟩:=qE x.cs.length;have HND:=qH hND;obtain⟨tx,htx⟩:=qE (⟨x.tu.toArray⟩:ByteArray);obtain⟨ck,hck⟩:=qE (lchk x);have HCK:=qH hck;rw[<- hNF,<- hND,<- htx,<- hck] at HC;rw[<- hN,<- hNF] at HG;rw[<- hND] at HD;rw[<- hN,<- hNF,<- hND,<- htx];clear hf Ad hfr hcs hfx hK hN hNF hND htx hck;go_enter Tryz.func40,Tryz.ntmps40;go_wp2_with fail;have hQ:=HC.out _ (F6 (w:=w) (o:=.cells #[.slice af NF cf,.slice ad ND cd,.string tx] 56));refine Calls.mono hQ ?_;rintro e w1 ⟨rfl,hb1⟩;have HB1:Hid (Bq w w1):=F6.trans (hb1.mono F6.size)
 obtain⟨hx0,hx1,hx2⟩:=be3 hb1;clear hb1 hQ HC;by_cases h0:ck=0
 .
  subst h0;obtain⟨_,_,hcs6,_,_,Il⟩:=be1 HCK.out.symm;rw[<- HND.out] at hcs6;have HCA:Hid _:=Il;clear Il;go_wp2_with fail;have hQ:=HG.out w1 HB1.out;refine Calls.mono hQ ?_;rintro e w2 ⟨ab,cb,rfl,hrb,hb2⟩;have HB2:Hid (Bq w w2):=HB1.out.trans (hb2.mono HB1.out.size);have hy1:=(hb2.cell (bLt w1 _ hx1)).trans hx1;obtain⟨ge,hge⟩:=qE ((C5 fs x.fr).2);have HGE:=qH hge;obtain⟨gb,hgb⟩:=qE ((C5 fs x.fr).1);have HGB:=qH hgb;have HSM:Hid _:=aZ3 fs x.fr;rw[<- hge,<- hgb];rw[<- hgb] at hrb HSM;have HRB:Hid _:=hrb;obtain⟨GN,hGN⟩:=qE gb.length;have HGN:=qH hGN;rw[<- hGN] at HRB ⊢;clear hQ HG hrb hb2 hge hgb hGN hx0 hx1 hx2;by_cases hg0:ge=0
  .
   subst hg0;have HLT:Hid (Y6 fs x=(aa8 x.cs gb,0)):=(show _=_ by rw[cl2 HCK.out.symm HGE.out.symm,HGB.out]);go_wp2_with fail;go_loopw [7,29] (fun bv i wr=>∃k:Nat,∃bs:List UInt8,∃ac cc nc,k<=ND/\i=.int .i64 k/\bv=.slice ac nc cc/\Hid (nc=bs.length)/\Hid (Reads wr (.slice ac nc cc) nc (bs.map U))/\Hid (bs.length<=4000/\whole bs)/\Hid (bs=aa8 (x.cs.take k) gb)/\Hid (Bq w wr)) (fun _ i _=>ND-(intOf i).toNat)
   case atStart=>exact⟨0,gb,ab,cb,GN,Nat.zero_le _,rfl,rfl,HGN,HRB,HSM,(show _=_ from rfl),HB2⟩
   case round=>
    clear HRB HB2 hy1;obtain⟨k,bs,ac,cc,nc,hk,rfl,rfl,HNC,HRD,HSZ,HBS,Aa⟩:=hrel;by_cases hlt:k<ND
    .
     obtain⟨c,hc⟩:∃c,x.cs[k]? = some c:=⟨_,gEl (by have:=HND.out;omega)⟩;obtain⟨bb,off,rfl,hc0,hc1,hc2⟩:=(P6.below HD.out Aa.out).at hc;have hcc:=HCA.out c (mGt hc);have HDO:Hid _:=fun (W:World) (hb:Bq wr W)=>cx0 c (.slice ac nc cc) bs W (HX.out.2.1 c (mGt hc)) hcc (by have h:=HRD.out.below hb;rw[HNC.out] at h ⊢;exact h) HSZ.out.1 ((HK.out.below Aa.out).below hb);have HB3:Hid (aq8 c bs=aa8 (x.cs.take (k+1)) gb):=(show _=_ by rw[bI4 hc,HBS.out])
     have HSZ2:Hid ((aq8 c bs).length<=4000/\whole (aq8 c bs)):=(show _/\_ by
      have:=aM1 [c] bs (by simp[hcc]) HSZ.out.2 HSZ.out.1
      exact⟨this.2,this.1⟩)
     obtain⟨ckk,Wh⟩:=qE c.kind;obtain⟨cww,Wi⟩:=qE (⟨c.word.toArray⟩:ByteArray);obtain⟨cnn,Wj⟩:=qE c.n;have hcv:c.v=.agg #[.int .i64 ckk,.string cww,.int .i64 cnn]:=by rw[Wh,Wi,Wj];rfl
     rw[hcv] at HDO;rw[<- Wh] at hc0;rw[<- Wi] at hc1;rw[<- Wj] at hc2;clear hc hcc Wh Wi Wj hcv HBS;go_wp2_with fail;have hQ:=HDO.out _ (F6 (w:=wr) (o:=.cells #[.int .i64 ckk,.string cww,.int .i64 cnn] 70));refine Calls.mono hQ ?_;rintro e w3 ⟨r,rfl,Ab,hb3⟩;have Lj:Hid (Bq wr w3):=F6.trans (hb3.mono F6.size);have HB33:Hid (Bq w w3):=Aa.out.trans (Lj.out.mono Aa.out.size);have hrd:=Reads.of_owns Ab;obtain⟨a3,c3,rfl,_,_⟩:=hrd.shape;obtain⟨n3,hn3⟩:=qE ((aq8 c bs).length);have HN3:=qH hn3;rw[<- hn3] at hrd ⊢;have HR3:Hid _:=hrd;clear hQ HDO Ab hb3 hrd hn3 HRD HSZ hc0 hc1 hc2 Lj;go_wp2_with fail;go_roundw
     case rel=>exact⟨k+1,_,_,_,_,by omega,by go_num,rfl,HN3,HR3,HSZ2,HB3,HB33⟩
     case measure=>simp[intOf];omega
    . have HE:Hid (Y6 fs x=(bs,0)):=(show _=_ by rw[HLT.out,HBS.out,List.take_of_length_le (by have:=HND.out;omega)]);go_wp2_with fail;go_ret2;refine⟨ac,cc,?_,?_,Aa.out⟩
      . rw[HE.out,<- HNC.out];rfl
      . rw[HE.out];have:=HRD.out;rw[HNC.out] at this;exact this
  . have HR:Hid (Y6 fs x=([],ge)):=(show _=_ by rw[bX9 HCK.out.symm (by rw[<- HGE.out];exact hg0),<- HGE.out]);go_wp2_with fail;go_ret2;exact N8 HR.out rfl HB2.out
 . have HR:Hid (Y6 fs x=([],ck)):=(show _=_ by rw[bX8 (by rw[<- HCK.out];exact h0),<- HCK.out]);clear HG;go_wp2_with fail;go_ret2;exact N8 HR.out rfl HB1.out
theorem bI5 {n:List UInt8} (h:isWord n=true):n.length<=9223372036854775807:=by unfold isWord at h;simp at h;omega
theorem right_fits {fs:List SFile} (h:fchk fs=0):∀f∈fs,M3 f:=fun f hf=>bI5 (J2 (I0 h).2 f hf).1
theorem aj7 {w:World} {ao:Option Addr} {n cap:Nat} {xs:List Int} (h:Reads w (.slice ao n cap) n (Zs xs)) {k:Nat} (hk:k<=n):Reads w (.slice ao k cap) (xs.take k).length (Zs (xs.take k))/\(xs.take k).length=k:=by
 obtain⟨hl,ao',c,e,h1,h2,h3⟩:=h;injection e with e1 e2 e3;subst e1 e3;have hxl:xs.length=n:=by simpa[Zs] using hl
 have htl:(xs.take k).length=k:=by rw[List.length_take];omega
 refine⟨⟨by simp[Zs],ao,cap,by rw[htl],by omega,h2,fun h0=>?_⟩,htl⟩;rw[htl] at h0;obtain⟨b,off,q,hc⟩:=h3 (by omega);refine⟨b,off,q,fun j u hj=>hc j u ?_⟩;unfold Zs at hj ⊢;rw[List.map_take,List.getElem?_take] at hj;split at hj
 . exact hj
 . cases hj
end Go.Proofs.YtllgglolcgdehaaGreatDoor
namespace Go.Proofs.YtllgglolcgdehaaGreatDoor
open Go.RowKit Go.Gs Go.ChangeShapes Go.WideShapes Go.ChangeAt
set_option linter.unusedVariables false
variable {P:Program} {H:Type} {enc:TypeId × Value->H} {W:World} {base:Nat} {held:Bool} {fuel:Nat} {t e q:TypeId} {x:DataW H × List MemPlace}
theorem aB4 {b off j:Nat}:(⟨b,off,none⟩:Addr).add j=⟨b,off+j,none⟩:=by unfold Addr.add;split <;> simp_all
theorem aF7 {spare:Nat->Bool} {f0 f1 f2:Field} {cs:List Value} (ht:P.underlying t=some (.slice e)) (he:P.underlying e=some (.struct #[f0,f1,f2]))
 (ce:P.cellsOf e=3) (o0:f0.offset=0) (o1:f1.offset=1) (o2:f2.offset=2) (c0:P.cellsOf f0.type=1) (c1:P.cellsOf f1.type=1) (c2:P.cellsOf f2.type=1)
 (h:DataW.trod enc P W base spare held fuel t cs=some x) :
 cs=[.slice none 0 0] \/
 ∃(a:Addr) (len cap:Nat) (V:Nat->Value × Value × Value),cs=[.slice (some a) len cap]/\len<=cap/\cap<=maxLen /\
  ∀i,i<len->W.cell? (a.add (i*3))=some (V i).1/\W.cell? (a.add (i*3+1))=some (V i).2.1/\W.cell? (a.add (i*3+2))=some (V i).2.2 /\
   ∃n y0 y1 y2,DataW.trod enc P W base spare held n f0.type [(V i).1]=some y0/\DataW.trod enc P W base spare held n f1.type [(V i).2.1]=some y1/\DataW.trod enc P W base spare held n f2.type [(V i).2.2]=some y2:=by
 rcases Deep.open_slice ht h with ⟨h0,_⟩ | ⟨a,len,cap,m,n,D,Pl,rfl,hb,hl,hm,hmm,rfl,hx⟩
 . exact Or.inl h0
 right;have hlm:len<=m:=by rw[hmm];split <;> omega
 have each:∀i,i<len -> ∃q:Value × Value × Value,W.cell? (a.add (i*3))=some q.1/\W.cell? (a.add (i*3+1))=some q.2.1/\W.cell? (a.add (i*3+2))=some q.2.2 /\
  ∃n y0 y1 y2,DataW.trod enc P W base spare held n f0.type [q.1]=some y0/\DataW.trod enc P W base spare held n f1.type [q.2.1]=some y1/\DataW.trod enc P W base spare held n f2.type [q.2.2]=some y2:=by
  intro i hi
  obtain⟨cs',h1,h2⟩:=hx i (by omega)
  rw[ce] at h1
  obtain⟨_,hlen,Ac⟩:=World.cells?_some h1
  obtain⟨xs,k,hk,hxy,_,hxl,hf⟩:=DataW.trod_struct he h2
  match xs,hxl,cs',hlen with
  | [y0,y1,y2],_,[v0,v1,v2],_=>
   have g0:=hf 0 f0 rfl
   have g1:=hf 1 f1 rfl
   have g2:=hf 2 f2 rfl
   simp[o0,o1,o2,c0,c1,c2] at g0 g1 g2
   have e0:=Ac 0 (by omega)
   have e1:=Ac 1 (by omega)
   have e2:=Ac 2 (by omega)
   rw[Deep.add_add] at e0 e1 e2
   exact⟨(v0,v1,v2),by simpa using e0,by simpa using e1,by simpa using e2,k,y0,y1,y2,g0,g1,g2⟩
 obtain⟨q,hq⟩:=Deep.choose_lt each;exact⟨a,len,cap,q,rfl,hl,hm,hq⟩
theorem aJ0 {α:Type} {len:Nat} {Y:Nat->α} {j:Nat} {p:α} (hj:((List.range len).map Y)[j]? = some p):j<len/\p=Y j:=by
 rw[List.getElem?_map] at hj
 cases hr:(List.range len)[j]? with
 | none=>rw[hr] at hj;cases hj
 | some i=>
  rw[hr] at hj
  have h1:=(gSm hr).1
  rw[List.length_range] at h1
  rw[List.getElem?_range h1] at hr
  injection hr with hr
  simp only[Option.map_some,Option.some.injEq] at hj
  exact⟨h1,by rw[<- hj,<- hr]⟩
theorem aJ1 {w:World} {a:Addr} {k:Nat} {v:Value} (h:w.cell? (a.add k)=some v) (hk:k=0):a.spot=none:=by obtain⟨b,off,spot⟩:=a;subst hk;simpa[Addr.add] using World.cell?_spot h
theorem aF5 (ht:P.underlying t=some (.slice e)) (he:P.underlying e=some .string) (ce:P.cellsOf e=1) {v:Value}
 (hf:DataW.trod enc P W base (fun _=>true) held fuel t [v]=some x) :
 ∃fr:List (List UInt8),Reads W v fr.length (fr.map S) /\ ∀s∈fr,s.length<=9223372036854775807:=by
 rcases Deep.open_slice1 ht ce hf with ⟨hcs,_⟩ | ⟨ad,len,cap,m,n,V,D,Pl,hcs,hb,hl,hm,hmm,hx,Ae⟩
 . simp at hcs;subst hcs;exact⟨[],⟨rfl,none,0,rfl,Nat.le_refl _,by simp,fun h=>absurd rfl h⟩,by simp⟩
 .
  simp at hcs;subst hcs;simp only[if_true] at hmm;subst hmm;have each:∀i,i<len -> ∃y:List UInt8,V i=S y/\y.length<=9223372036854775807:=by intro i hi;obtain⟨s,e2,_,hs⟩:=DataW.trod_string he (Ae i (by omega)).2;simp at e2;refine⟨s.data.toList,by rw[e2];rfl,?_⟩;unfold maxLen at hs;have:s.data.toList.length=s.size:=Array.length_toList;omega
  obtain⟨Y,hY⟩:=Deep.choose_lt each;refine⟨(List.range len).map Y,⟨by simp,some ad,m,by simp,by simpa using hl,hm,fun h0=>?_⟩,fun s hs=>?_⟩
  .
   have h0':0<len:=by
    rcases Nat.eq_zero_or_pos len with h | h
    . subst h;simp at h0
    . exact h
   have Br:=aJ1 (Ae 0 (by omega)).1 rfl;obtain⟨b,off,spot⟩:=ad;simp only at Br;subst Br;refine⟨b,off,rfl,fun j u hu=>?_⟩;rw[List.map_map] at hu;obtain⟨h1,h2⟩:=aJ0 hu;have:=(Ae j (by omega)).1;rw[aB4] at this;rw[this,h2,Function.comp,(hY j h1).1]
  . obtain⟨i,hi,rfl⟩:=List.mem_map.1 hs;exact (hY i (List.mem_range.1 hi)).2
theorem bm6 {f0 f1 f2:Field} (ht:P.underlying t=some (.slice e)) (he:P.underlying e=some (.struct #[f0,f1,f2]))
 (ce:P.cellsOf e=3) (o0:f0.offset=0) (o1:f1.offset=1) (o2:f2.offset=2) (c0:P.cellsOf f0.type=1) (c1:P.cellsOf f1.type=1) (c2:P.cellsOf f2.type=1)
 (u0:P.underlying f0.type=some (.int .i64)) (u1:P.underlying f1.type=some .string) (u2:P.underlying f2.type=some (.int .i64)) {v:Value}
 (hf:DataW.trod enc P W base (fun _=>true) held fuel t [v]=some x):∃cs:List Cmd,P6 W v cs/\ci0 cs /\ ∀n c,v=.slice none n c->c=0:=by
 rcases aF7 ht he ce o0 o1 o2 c0 c1 c2 hf with hcs | ⟨a,len,cap,V,hcs,hl,hm,Ae⟩
 . simp at hcs;subst hcs;exact⟨[],⟨none,0,rfl,Nat.le_refl _,by simp,fun h=>absurd rfl h⟩,(by intro c hc;cases hc),fun n c e=>by injection e with _ _ e;exact e.symm⟩
 .
  simp at hcs;subst hcs;have each:∀i,i<len -> ∃c:Cmd,V i=(.int .i64 c.kind,.string ⟨c.word.toArray⟩,.int .i64 c.n)/\c.word.length<=9223372036854775807:=by intro i hi;obtain⟨_,_,_,n,y0,y1,y2,g0,g1,g2⟩:=Ae i hi;obtain⟨k,e1,_,_⟩:=DataW.trod_int u0 g0;obtain⟨s,e2,_,hs⟩:=DataW.trod_string u1 g1;obtain⟨n,e3,_,_⟩:=DataW.trod_int u2 g2;simp at e1 e2 e3;refine⟨⟨k,s.data.toList,n⟩,by rw[<- e1,<- e3];exact Prod.ext rfl (Prod.ext e2 rfl),?_⟩;unfold maxLen at hs;have:s.data.toList.length=s.size:=Array.length_toList;show s.data.toList.length<=_;omega
  haveI:Inhabited Cmd:=⟨⟨0,[],0⟩⟩;obtain⟨Y,hY⟩:=Deep.choose_lt each;refine⟨(List.range len).map Y,⟨some a,cap,by simp,by simpa using hl,hm,fun h0=>?_⟩,fun c hc=>?_,fun n c e=>by injection e with e;cases e⟩
  .
   have h0':0<len:=by
    rcases Nat.eq_zero_or_pos len with h | h
    . subst h;simp at h0
    . exact h
   have Br:=aJ1 (Ae 0 h0').1 rfl;obtain⟨b,off,spot⟩:=a;simp only at Br;subst Br;refine⟨b,off,rfl,fun j u hu=>?_⟩;obtain⟨h1,h2⟩:=aJ0 hu;subst h2;obtain⟨b0,b1,b2,_⟩:=Ae j h1;rw[aB4,(hY j h1).1] at b0 b1 b2;exact⟨b0,b1,b2⟩
  . obtain⟨i,hi,rfl⟩:=List.mem_map.1 hc;exact (hY i (List.mem_range.1 hi)).2
theorem aq2 {vf vd vt:Value} {n:Nat} {y0 y1 y2:DataW H × List MemPlace} (g0:DataW.trod enc Tryz.prog W base (fun _=>true) held n 53 [vf]=some y0) (g1:DataW.trod enc Tryz.prog W base (fun _=>true) held n 54 [vd]=some y1) (g2:DataW.trod enc Tryz.prog W base (fun _=>true) held n 9 [vt]=some y2) :
 ∃x:SLine,vt=.string ⟨x.tu.toArray⟩/\Reads W vf x.fr.length (x.fr.map S)/\P6 W vd x.cs/\Y5 x /\ ∀n c,vd=.slice none n c->c=0:=by obtain⟨fr,r1,r2⟩:=aF5 Tryz.underlying53 Tryz.underlying9 (by kernel_rfl) g0;obtain⟨cs,r3,r4,r5⟩:=bm6 Tryz.underlying54 Tryz.underlying70 (by kernel_rfl) rfl rfl rfl (by kernel_rfl) (by kernel_rfl) (by kernel_rfl) Tryz.underlying3 Tryz.underlying9 Tryz.underlying3 g1;obtain⟨s,e2,_,hs⟩:=DataW.trod_string Tryz.underlying9 g2;simp at e2;refine⟨⟨fr,cs,s.data.toList⟩,e2,r1,r3,⟨r2,r4,?_⟩,r5⟩;unfold maxLen at hs;have:s.data.toList.length=s.size:=Array.length_toList;show s.data.toList.length<=_;omega
end Go.Proofs.YtllgglolcgdehaaGreatDoor
namespace Go.Proofs.YtllgglolcgdehaaGreatDoor
open Go.RowKit Go.Gs Go.ChangeShapes Go.WideShapes Go.ChangeAt
set_option linter.unusedVariables false
variable {H:Type} {enc:TypeId × Value->H} {W:World} {base:Nat} {held:Bool} {fuel:Nat} {x:DataW H × List MemPlace}
theorem bI6 {w:World} {a:Addr} {k:Nat} {v:Value} (h:w.cell? (a.add k)=some v) (hk:k=0):a.spot=none:=by obtain⟨b,off,spot⟩:=a;subst hk;simpa[Addr.add] using World.cell?_spot h
theorem ak8 {v:Value} (hf:DataW.trod enc Tryz.prog W base (fun _=>true) held fuel 25 [v]=some x) :
 ∃fs:List SFile,j9 W v fs/\(∀f∈fs,M3 f) /\ ∀n c,v=.slice none n c->c=0:=by
 rcases Deep.open_slice_pairs Tryz.underlying25 Tryz.underlying83 (by kernel_rfl) rfl rfl (by kernel_rfl) (by kernel_rfl) hf with ⟨hcs,_⟩ | ⟨a,len,cap,m,n,V0,V1,D0,D1,P0,P1,hcs,hb,hl,hm,hmm,_,Ae⟩
 . simp at hcs;subst hcs;exact⟨[],⟨none,0,rfl,Nat.le_refl _,by simp,fun h=>absurd rfl h⟩,(by intro c hc;cases hc),fun n c e=>by injection e with _ _ e;exact e.symm⟩
 .
  simp at hcs;subst hcs;simp only[if_true] at hmm;subst hmm;have each:∀i,i<len -> ∃f:SFile,V0 i=.string ⟨f.name.toArray⟩/\Reads W (V1 i) f.b.length (f.b.map U)/\M3 f:=by
   intro i hi;obtain⟨_,_,g0,g1⟩:=Ae i (by omega);obtain⟨s,e2,_,hs⟩:=DataW.trod_string Tryz.underlying9 g0;simp at e2;obtain⟨a',l',c',hv⟩:∃a' l' c',V1 i=.slice a' l' c':=by
    rcases open_ints Tryz.underlying28 Tryz.underlying5 (by kernel_rfl) g1 with ⟨hcs,_⟩ | ⟨ad',l',c',zs,hcs,_⟩
    . exact⟨none,0,0,by simpa using hcs⟩
    . exact⟨some ad',l',c',by simpa using hcs⟩
   rw[hv] at g1 ⊢;obtain⟨bs,hbl,hr⟩:=az6 Tryz.underlying28 Tryz.underlying5 (by kernel_rfl) g1;refine⟨⟨s.data.toList,bs⟩,e2,hr,?_⟩;unfold M3;unfold maxLen at hs;have:s.data.toList.length=s.size:=Array.length_toList;show s.data.toList.length<=_;omega
  haveI:Inhabited SFile:=⟨⟨[],[]⟩⟩;obtain⟨Y,hY⟩:=Deep.choose_lt each;have Hj:∀(j:Nat) (p:SFile),((List.range len).map Y)[j]? = some p->j<len/\p=Y j:=by
   intro j p hj;rw[List.getElem?_map] at hj;by_cases h1:j<len
   . rw[List.getElem?_range h1] at hj;simp only[Option.map_some,Option.some.injEq] at hj;exact⟨h1,hj.symm⟩
   . rw[List.getElem?_eq_none (by simp;omega)] at hj
     cases hj
  refine⟨(List.range len).map Y,⟨some a,m,by simp,by simpa using hl,hm,fun h0=>?_⟩,fun f hf=>?_,fun n c e=>by injection e with e;cases e⟩
  .
   have h0':0<len:=by
    rcases Nat.eq_zero_or_pos len with h | h
    . subst h;simp at h0
    . exact h
   have Br:=bI6 (Ae 0 (by omega)).1 rfl;obtain⟨b,off,spot⟩:=a;simp only at Br;subst Br;refine⟨b,off,rfl,fun j f hj=>?_⟩;obtain⟨h1,rfl⟩:=Hj j f hj;obtain⟨c0,c1,_,_⟩:=Ae j (by omega);obtain⟨q0,q1,_⟩:=hY j h1;rw[Gs.add_plain] at c0 c1;exact⟨V1 j,by rw[c0,q0],by rw[Nat.add_assoc];exact c1,q1⟩
  . obtain⟨i,hi,rfl⟩:=List.mem_map.1 hf;exact (hY i (List.mem_range.1 hi)).2.2
end Go.Proofs.YtllgglolcgdehaaGreatDoor
