/- What the developers' came does, and more. -/
import Derived.Test.YtllgglolcgdehaaGreatDoorSAb
import Derived.Test.YtllgglolcgdehaaGreatDoorSa34
import Derived.Test.YtllgglolcgdehaaGreatDoorSa35
set_option linter.all false
set_option maxRecDepth 100000
set_option maxHeartbeats 16000000
namespace Go.Proofs.YtllgglolcgdehaaGreatDoor
open Go.RowKit Go.Gs Go.Maps Tryz
variable {G:World->(Nat->Option Own)->Prop}
theorem ch0(D r:Nat)(O:Nat->Option Own)(d:RD)(i q m:Nat)(n:SNode)(p:SProc)(x:SPipe)(g:List UInt8)(w:World)(h:RunM G w D r O d)(hS:Shape d.M)(hn:d.M.ns[i]? = some n)(hp:d.M.ps[i]? = some p)(hm:p.pos=(m:Int))(hgm:p.got[m]? = some g)(hg0:g≠[])(hq:q=b7 d.M.ns i+m)(hx:d.M.pipes[q]? = some x)(Ad:S0 n)(hT:p.got.flatten.length<=241200)(hsm:∀b∈p.out,b.length<=90000000)(hsk:d.M.sunk.length<=90000000)(hE:∀W,Below D w W->D6 W):
 Calls prog 170 #[.pointer (some ⟨r,0,none⟩),.int .i64 i] w fun e w'=>e=.returned (.int .i64 0)/\l9 G w' D r (I7 d.M i n q p)/\Below D w w':=by
 by_cases hk5:n.kind=5
 . exact bW4 D r O d i q m n p x g w h hS hn hp hm hgm hg0 hq hx Ad hT hsm hsk hE hk5
 . by_cases hps:passes n=true
   . exact bW6 D r O d i q m n p x g w h hS hn hp hm hgm hg0 hq hx Ad hT hsm hsk hE hk5 hps
   . exact bW5 D r O d i q m n p x g w h hS hn hp hm hgm hg0 hq hx Ad hT hsm hsk hE hk5 (by simpa using hps)
end Go.Proofs.YtllgglolcgdehaaGreatDoor
namespace Go.Proofs.YtllgglolcgdehaaGreatDoor
open Go.RowKit Go.Gs Tryz
theorem D7.go{w w' w1:World}{B D:Nat}{go:Option Nat}{X:Nat->Prop}{d d2:PD}(h:D7 w w' B D go X d2)(hs:DSt w B D go X d)(hb:Below B w1 w)(hB:B<=w.heap.size):∃go',DSt w' B D go' X d2/\Below B w1 w':=by obtain⟨g',h1,h2,h3⟩:=h;obtain⟨a1,a2,a3⟩:=hs.own;exact⟨g',h1,hb.trans (h2.below hB a3 (fun g hg=>(a1 g hg).1) (fun g hg=>hg.elim))⟩
theorem co3(l:SLine)(wn:Nat)(hw:1<=wn/\wn<=5)(af ad:Option Addr)(cf cd:Nat)(w:World)(hf:Reads w (.slice af l.fr.length cf) l.fr.length (l.fr.map S))(hd:H9 w (.slice ad l.cs.length cd) l.cs)(Ad:M3 l)(h:lchk l=0):
 Calls prog 28 #[.agg #[.slice af l.fr.length cf,.slice ad l.cs.length cd,.string ⟨l.tu.toArray⟩],.int .i64 (wn:Int)] w fun e w'=>aK0 w (plan l wn,0) e w':=by
 have HC:Hid _:=fun(W:World)(hb:Bq w W)=>ab5 l af ad cf cd W (hf.below hb) (hd.below hb) Ad;rw[h]at HC;obtain⟨⟨hn1,hn4,hn6⟩,hwf,hwt,hcs⟩:=an3 h;have HF:=qH hf;have HD:=qH hd;have HCS:=qH hcs;have Db:=qH Ad;have HLN:Hid _:=(aL4 hw h);obtain⟨NF,hNF⟩:=qE l.fr.length;obtain⟨ND,hND⟩:=qE l.cs.length;have HNF:=qH hNF;have HND:=qH hND;have hN1:1<=NF:=by omega
 have hN4:NF<=4:=by omega
 have hN6:ND<=6:=by omega
 have hw1:¬(wn:Int)<1:=by omega
 have hw5:¬(5:Int)<(wn:Int):=by omega
 have HDL:=qH (show ∀k,k<=ND->((J1 wn l.fr (l.cs.take k)).2.length=1\/(J1 wn l.fr (l.cs.take k)).2.length=wn)/\(J1 wn l.fr (l.cs.take k)).1.length<=5+7*k from fun k hk=>by
  have:=aW8 hw hn1 hn4 (l.cs.take k)
  rw[qL,ql (by omega)]at this
  exact this)
 rw[<- hNF,<- hND]at HC ⊢;obtain⟨tx,htx⟩:=qE (⟨l.tu.toArray⟩:ByteArray);have HTX:=qH htx;rw[<- htx]at HC ⊢;rw[<- hNF]at HF;rw[<- hND]at HD;obtain⟨i1,hi',hy0,hy1,hy2⟩:=info_parts aD0;clear hf hd Ad h hn1 hn4 hn6 hwf hwt hcs hNF hND htx;go_enter Tryz.func28,Tryz.ntmps28;go_wp2_with fail;refine (HC.out _ P2).mono ?_;rintro e w1⟨rfl,hb1⟩;have HBB:Hid (Bq w w1):=P2.trans (hb1.mono (by simp;omega));have HLR:Hid (LR w1 w.heap.size (.slice af NF cf) (.slice ad ND cd) (.string tx)):=LR.start hb1;have hs1:w.heap.size+1<w1.heap.size:=by have:=hb1.size;simp at this;omega
 obtain⟨x0,x1,x2,x3,x4⟩:=HLR.out.cells;have hx0:=(i8 (w:=w1) (o:=.cells #[.slice none 0 0,.slice none 0 0] 144)).cell (bLt w1 _ x0);rw[x0]at hx0;clear hb1 HC x0 x1 x2 x3 x4;go_wp2_with fail;go_loopw [29] (fun i wr=>∃k:Nat,k<=NF/\i=.int .i64 k/\∃ov v rows,Hid (SRel w1 wr w1.heap.size l.fr k ov v rows)) (fun i _=>NF-(intOf i).toNat)
 case atStart=>exact⟨0,qP _,rfl,_,_,_,SRel.start w1 l.fr⟩
 case round=>
  clear hx0;obtain⟨k,hk,rfl,ov,v,rows,HS⟩:=hrel;have HBr:Hid (Bq w1 wr):=HS.out.2.2.2.2.2;have Wy:w1.heap.size<wr.heap.size:=I9 HS.out.1;by_cases hlt:k<NF
  .
   obtain⟨s,hs⟩:∃s,l.fr[k]? = some s:=⟨_,gEl (by have:=HNF.out;omega)⟩;obtain⟨b,off,hao,Ac⟩:=(Reads.below HF.out (HBB.out.trans (HBr.out.mono HBB.out.size))).at hs;subst hao;obtain⟨ao,co,hov,ho1,ho2⟩:=ak2 HS.out.2.2.2.1;subst hov;have hrl:rows.length=k:=by
    have h1:=HS.out.2.2.1;have h2:=(Y1 (l.fr.take k) ([],[])).1;have h3:(l.fr.take k).length=k:=by rw[qL];have:=HNF.out;omega
    rw[h3]at h2;have h4:rows.length=(D8 (l.fr.take k)).1.length:=by rw[<- h1];simp
    rw[h4];simpa[D8]using h2
   have HRL:Hid _:=hrl;have Ji:rows.length<=60:=by omega
   have Dl:Hid _:=fun(W2:World)(hb:Bq wr W2)=>HS.out.add hb s Ji;have HST:Hid _:=fun(W2 w4 w5:World)(hb:Bq wr W2)(v4 ov5:Value)(q1:w4.heap[w1.heap.size]? = some (.cells #[v4,.slice ao k co] 144 (0,0))) q2 q6 q7 ow gr bl=>HS.out.step hs (qB _) hb (w4:=w4) (w5:=w5) (v4:=v4) (ov5:=ov5) (r:=(srcN s,none,0)) rfl q1 q2 q6 q7 ow gr bl;have HO4:Hid _:=fun(W2 w4:World)(hb:Bq wr W2) q6=>HS.out.own4 (w4:=w4) hb q6;have HCF:=qH (show ∀(W:World)(v' vo:Value),W.heap[w1.heap.size]? = some (.cells #[v',vo] 144 (0,0))->W.cell? ⟨w1.heap.size,1,none⟩=some vo/\W.frozen? ⟨w1.heap.size,1,none⟩=false from fun W v' vo q=>⟨qR q rfl,xK _ _ _ _ _ q⟩);obtain⟨y1,y2⟩:=HCF.out _ _ _ HS.out.1;generalize (⟨s.toArray⟩:ByteArray)=sx at *;clear hs hrl;go_upto_region 10 with fail
   go_region_law (first
    | (refine bA7 rfl 90 #[.pointer (some ⟨w1.heap.size,0,none⟩),.agg #[.int .i64 1,.string sx,.int .i64 0,.string ⟨#[]⟩,.int .i64 0,.int .i64 0,.int .i64 0,.slice none 0 0]] (by go_simp) (Dl.out _ (by first|exact qI _ _ | exact (qI _ _).drew)) ?_;rintro e w4⟨v4,b4,rfl,q1,q2,q3,q4,q5,q6,q7⟩;refine⟨_,rfl,?_⟩;have hs4:wr.heap.size<=w4.heap.size:=q6.size;have HO5:Hid _:=HO4.out _ _ (by first|exact qI _ _ | exact (qI _ _).drew) q6;have Ik:Hid _:=fun(w5:World)(ov5:Value) ow gr bl=>HST.out _ w4 w5 (by first|exact qI _ _ | exact (qI _ _).drew) v4 ov5 q1 q2 q6 q7 ow gr bl;have HQ5:Hid _:=aN2 q5;obtain⟨u1,u2⟩:=HCF.out _ _ _ q1)
    | (refine ah8 rfl (.tmp 34) (.tmp 37) 71 rfl w1.heap.size 79 i1 _ 2 16 underlying71 hi' hy0 hy1 hy2 rfl (by omega) (.slice ao k co) k _ (by simp[Act.eval]) HO5.out ⟨b4,0,none⟩ 1 1 (A4 (l5 rows.length 1)) (by simp[Act.eval]) (by rw[as8,L2]) HQ5.out (aN3 _) (by unfold maxLen;omega) (by omega) (by omega) ?_;intro v5 w5 ow5 gr5 nn5 bl5;obtain⟨HL5,hD5⟩:=Ik.out _ _ ow5 gr5 bl5;obtain⟨z1,z2⟩:=HCF.out _ _ _ hD5;obtain⟨a5,c5,rfl,_,_⟩:=ak2 ow5))
   all_goals
    have HL6:Hid _:=HL5;clear HL5 hD5 z1 z2 u1 u2 ow5 gr5 nn5 bl5 q1 q2 q3 q4 q5 q6 q7 HO5 Ik HQ5 Dl HST HO4 y1 y2;go_wp2_with fail;go_roundw
    case rel=>exact⟨k+1,by omega,by go_num,_,_,_,HL6.out⟩
    case measure=>simp[intOf];omega
  .
   have hkN:NF=k:=by omega
   have HST:Hid (DSt wr w1.heap.size w1.heap.size v.ownBlock noX (D8 l.fr)):=HS.out.done (by rw[<- HNF.out];exact hkN.symm);have hl60:(D8 l.fr).1.length<=60:=by have h2:=(Y1 l.fr ([],[])).1;have:=HNF.out;unfold D8;simp only[qy]at h2;omega
   have HBH:Hid _:=aN0 w1.heap.size w1.heap.size v.ownBlock noX (D8 l.fr) wr HST.out hl60 (by omega);have HBG:Hid _:=fun(w':World)(h:D7 wr w' w1.heap.size w1.heap.size v.ownBlock noX (E9 (D8 l.fr)))=>h.go HST.out HBr.out (by omega);clear HS hl60 HST;go_wp2_with fail;refine qD HBH.out ?_;rintro e w5⟨rfl,hst⟩;obtain⟨go5,S5,B5⟩:=HBG.out _ hst;have HS5:=qH S5;have HB5:=qH B5;obtain⟨x0,x1,x2,x3,x4⟩:=(HLR.out.below HB5.out hs1).cells;clear hst HBH HBG S5 B5 HBr Wy hkN hk x0 x2 x3 x4;go_wp2_with fail;go_loopw [45] (fun i wr=>∃k:Nat,k<=ND/\i=.int .i64 k/\∃go,Hid (DSt wr w1.heap.size w1.heap.size go noX (J1 wn l.fr (l.cs.take k)))/\Hid (Bq w1 wr)) (fun i _=>ND-(intOf i).toNat)
   case atStart=>exact⟨0,qP _,rfl,_,HS5,HB5⟩
   case round=>
    clear HS5 HB5 x1;obtain⟨j,hj,rfl,go,HS,HBr⟩:=hrel;obtain⟨hgo,hDl,_⟩:=HS.out.own;by_cases Di:j<ND
    . obtain⟨c,hc⟩:∃c,l.cs[j]? = some c:=⟨_,gEl (by have:=HND.out;omega)⟩;obtain⟨b,off,hao,c0,c1,c2⟩:=(H9.below HD.out (HBB.out.trans (HBr.out.mono HBB.out.size))).at hc;subst hao;have hcm:=mGt hc;have HCM:Hid _:=fun(W2:World)(hb:Bq wr W2)=>bA6 c (HCS.out c hcm) (Db.out.2.1 c hcm) wn hw w1.heap.size w1.heap.size go (J1 wn l.fr (l.cs.take j)) W2 (HS.out.below hb) (by have:=(HDL.out j hj).2;omega) (HDL.out j hj).1 (by have:=hb.size;omega);have HG:Hid _:=fun(W2 w':World)(hb:Bq wr W2)(h:D7 W2 w' w1.heap.size w1.heap.size go noX (pCmd wn (J1 wn l.fr (l.cs.take j)) c))=>h.go (HS.out.below hb) (HBr.out.trans (hb.mono (by omega))) (by have:=hb.size;omega);have hnx:pCmd wn (J1 wn l.fr (l.cs.take j)) c=J1 wn l.fr (l.cs.take (j+1)):=by rw[qX,hc,xa,by7]
      rw[hnx]at HCM HG;unfold Cmd.v at HCM;generalize (⟨c.word.toArray⟩:ByteArray)=wx at *;generalize c.kind=ck at *;generalize c.n=cn at *;clear hc hcm hnx HS HBr;go_wp2_with fail;refine qD (HCM.out _ i8) ?_;rintro e w6⟨rfl,hst⟩;obtain⟨go6,S6,B6⟩:=HG.out _ _ i8 hst;have HS6:Hid _:=S6;have HB6:Hid _:=B6;clear hst HCM HG S6 B6 c0 c1 c2;go_wp2_with fail;go_roundw
      case rel=>exact⟨j+1,by omega,by go_num,_,HS6,HB6⟩
      case measure=>simp[intOf];omega
    .
     have hjN:ND=j:=by omega
     have Ae:l.cs.take j=l.cs:=by rw[<- hjN,HND.out,qZ]
     rw[Ae]at HS;have hlen:=HDL.out j hj;rw[Ae]at hlen;have HBH:Hid _:=aN0 w1.heap.size w1.heap.size go noX (J1 wn l.fr l.cs) wr HS.out (by omega) (by omega);have HBG:Hid _:=fun(w':World)(h:D7 wr w' w1.heap.size w1.heap.size go noX (E9 (J1 wn l.fr l.cs)))=>h.go HS.out HBr.out (by omega);clear HS HBr hlen Ae;go_wp2_with fail;refine qD HBH.out ?_;rintro e w7⟨rfl,hst⟩;obtain⟨go7,⟨v7,rows7,ao7,co7,e7,hD7,hN7,Jf,hP7,_,_⟩,B7⟩:=HBG.out _ hst;have HB7:=qH B7;have hs7:=B7.size;have h49:=HLN.out.1;have h1p:=HLN.out.2;have hpl:(plan l wn).length=rows7.length+1:=by unfold plan as3;rw[<- Jf];simp
     have Rj:plan l wn=(rows7++[(aa0 l.tu (E9 (J1 wn l.fr l.cs)).2,ao7,co7)]).map (·.1):=by unfold plan as3;rw[<- Jf];simp
     have Dp:=aM9 (aa0 l.tu (E9 (J1 wn l.fr l.cs)).2) ao7 co7 w1.heap.size w1.heap.size noX v7 (.slice ao7 (E9 (J1 wn l.fr l.cs)).2.length co7) rows7 w7 0 rfl (by omega) hD7 hN7 hP7 (by omega) (qB _) (by omega);have hnv:C6 (aa0 l.tu (E9 (J1 wn l.fr l.cs)).2) ao7 (aa0 l.tu (E9 (J1 wn l.fr l.cs)).2).ins.length co7=.agg #[.int .i64 5,.string tx,.int .i64 0,.string ⟨#[]⟩,.int .i64 0,.int .i64 0,.int .i64 0,.slice ao7 1 co7]:=by rw[show (aa0 l.tu (E9 (J1 wn l.fr l.cs)).2).ins.length=1 from h1p,HTX.out];rfl
     rw[hnv]at Dp;have Dl:Hid _:=Dp;have HB8:Hid _:=fun(w':World)(h:Kept w1.heap.size v7.ownBlock noX w7 w')=>(show Bq w1 w' from B7.trans (h.below (by omega) (qB _) (fun g hg=>(hN7.base g hg).1) (fun g hg=>hg.elim)));clear Dp hnv;rw[h1p]at hD7;have hc1:w7.cell? ⟨w1.heap.size,1,none⟩=some (.slice ao7 1 co7):=qR hD7 rfl;obtain⟨x0,x1,x2,x3,x4⟩:=(HLR.out.below B7 hs1).cells;have HPL:Hid _:=Rj;have HPN:Hid _:=hpl;clear hst HBH HBG Rj hpl hN7 hP7 Jf hD7 B7 HLN h49;go_wp2_with fail;refine qD Dl.out ?_;rintro e w8⟨v8,b8,rfl,q1,q2,q3,q4,q5,q6,q7⟩;have hb8:=HB8.out _ q6;obtain⟨a8,c8,hv8,_,_⟩:=q2.form;have hl8:(rows7++[(aa0 l.tu (E9 (J1 wn l.fr l.cs)).2,ao7,co7)]).length=(plan l wn).length:=by rw[HPN.out];simp
     rw[hl8]at hv8;subst hv8;have d0:w8.cell? ⟨w1.heap.size,0,none⟩=some (.slice a8 (plan l wn).length c8):=qR q1 rfl;obtain⟨y0,y1,y2,y3,y4⟩:=(HLR.out.below hb8 hs1).cells;have hrn:=(NO.setR q2 (a:=⟨w.heap.size+1,0,none⟩) hs1 y3 (.slice a8 (plan l wn).length c8)).nodes;rw[<- HPL.out]at hrn;have HRN:Hid _:=hrn;have HBF:Hid (Bq w (w8.setCell ⟨w.heap.size+1,0,none⟩ (.slice a8 (plan l wn).length c8))):=(qT HBB hb8).out.setCell (by simp) _;clear q1 q2 q3 q4 q5 q6 q7 hb8 hrn Dl HB8 HPL HPN hl8 x0 x1 x2 x3 x4 hc1;go_wp2_with fail;(try simp only[Exit.inBlock,Exit.then])
     refine xA (v:=.tuple #[.agg #[.slice a8 (plan l wn).length c8],.int .i64 0]) ?_ rfl ⟨a8,c8,rfl,HRN.out,HBF.out⟩;rw[results_cell_tmp rfl];go_simp
theorem co4(l:SLine)(W:Int)(af ad:Option Addr)(cf cd:Nat)(w:World)(hf:Reads w (.slice af l.fr.length cf) l.fr.length (l.fr.map S))(hd:H9 w (.slice ad l.cs.length cd) l.cs)(Ad:M3 l):
 Calls prog 28 #[.agg #[.slice af l.fr.length cf,.slice ad l.cs.length cd,.string ⟨l.tu.toArray⟩],.int .i64 W] w fun e w'=>aK0 w (t8 l W) e w':=by
 by_cases h:lchk l≠0\/W<1\/5<W
 . exact bZ9 l W af ad cf cd w hf hd Ad h
 . have h0:lchk l=0:=by by_cases e:lchk l=0;exact e;exact absurd (Or.inl e) h
   have h1:¬(W<1\/5<W):=fun e=>h (Or.inr e);obtain⟨n,rfl⟩:=xW (show 0<=W by omega);rw[ay5 h0 h1];exact co3 l n (by omega) af ad cf cd w hf hd Ad h0
end Go.Proofs.YtllgglolcgdehaaGreatDoor
