/- What the reference's Made does to lines, and more. -/
import Derived.Test.YtmejdflmcikkdaaGreatDoorVAb
import Derived.Test.YtmejdflmcikkdaaGreatDoorVa27
set_option linter.all false
set_option maxRecDepth 100000
set_option maxHeartbeats 64000000
namespace Go.Proofs.YtmejdflmcikkdaaGreatDoor
open Go.RowKit Go.Gs Tryz
variable {W:World}{d:Array UInt8}
theorem by7(w:World)(sx:ByteArray)(x:qU)(hsx:Value.string sx=S x)(hx:x.length<=225000000):
 Sort.Holds U (w.alloc (.cells (bytesRow sx (grownCap w sx.size 0 5)) 5 ((bytesRow sx (grownCap w sx.size 0 5)).size,(bytesRow sx (grownCap w sx.size 0 5)).size+1))).drew w.heap.size 0 x.toArray /\
 Bq w (w.alloc (.cells (bytesRow sx (grownCap w sx.size 0 5)) 5 ((bytesRow sx (grownCap w sx.size 0 5)).size,(bytesRow sx (grownCap w sx.size 0 5)).size+1))).drew /\
 x.length<=grownCap w sx.size 0 5 /\ grownCap w sx.size 0 5 <= maxLen:=by
 have hs:sx.size=x.length:=ae8 hsx;have hd:sx.data.toList=x:=ae7 hsx;have hc1:x.length<=grownCap w sx.size 0 5:=by rw[<- hs];exact grownCap_ge _ _ _ _
 have hc2:grownCap w sx.size 0 5 <= maxLen:=grownCap_le_maxLen _ _ _ _ (by rw[hs];unfold maxLen;omega);have Ap:x.length<=(bytesRow sx (grownCap w sx.size 0 5)).size:=by unfold bytesRow;have:sx.data.size=x.length:=hs;simp;omega
 exact⟨aM6 w sx _ _ x hd Ap hc1,((Below.refl _ w).alloc (qA _) _).drew,hc1,hc2⟩
theorem aF2{b k:Nat}(h:Sort.Holds U W b 0 d):Sort.Holds U (W.drewN k) b 0 d:=by intro j hj;obtain⟨h1,h2⟩:=h j hj;exact⟨by simpa using h1,by simpa using h2⟩
theorem bM3(al:Option Addr)(cl:Nat)(n:Int)(ls:qL)(w:World)(hl:Reads w (.slice al ls.length cl) ls.length (ls.map S))(hLm:ls.length<=225000000)(hsz:∀s∈ls,s.length<=225000000)(a c:UInt8)(f:Nat->Option qU)(hf:∀i s,ls[i]?=some s->f i=some (P2 a c s)):
 Calls prog 55 #[.agg #[.int .i64 3,.string ⟨#[a,c]⟩,.int .i64 n],.slice al ls.length cl] w fun e w'=>∃r,e=.returned r/\w'.ownsRow (w.heap.size+1) 9 1 r (M f ls.length).length ((M f ls.length).map S)/\Bq w w':=by
 obtain⟨i0,hi,hz0,hz1,hz2⟩:=info_parts J9;have Hl:Hid _:=hl;obtain⟨-,al',cl',e4,-,-,hl5⟩:=hl;simp only[xT,true_and]at e4;obtain⟨rfl,rfl⟩:=e4;generalize hL:ls.length=L at *;go_enter func55,ntmps55;go_wp2_with fail
 go_loopw [5,16] (fun v5 i wr=>∃k:Nat,k<=L/\i=.int .i64 k/\wr.ownsRow (w.heap.size+1) 9 1 v5 (M f k).length ((M f k).map S)/\Below (w.heap.size+1) (w.alloc (.cells #[.int .i64 3,.string ⟨#[a,c]⟩,.int .i64 n] 54)) wr)
  (fun _ i _=>L-(intOf i).toNat)
 case atStart=>exact⟨0,qM _,rfl,by rw[ag1];exact World.ownsRow_nil _ _ _ _,Below.refl _ _⟩
 case round=>
  obtain⟨k,hk,rfl,Ab,Aa⟩:=hrel;obtain⟨bx0,bx1,bx2⟩:=F9 Aa;have hMl:=as6 f k;by_cases hlt:k<L
  .
   obtain⟨b,off,rfl,hc⟩:=hl5 qO;have Ai:wr.cell? ⟨b,off+k,none⟩=some (.string ⟨(ls[k]'(by omega)).toArray⟩):=((l8 Aa).cell (bLt w _ (hc k (S (ls[k]'(by omega))) (by simp[hL,hlt])))).trans (hc k _ (by simp[S,hL,hlt]));have hfk:=hf k (ls[k]'(by omega)) (gEl _);have hsk:(ls[k]'(by omega)).length<=225000000:=hsz _ (zZ _);have Hf:Hid _:=ag2 hfk;generalize hlk:ls[k]'(by omega)=l at *;obtain⟨sx,hsx,Ac⟩:∃sx:ByteArray,Hid (Value.string sx=S l)/\wr.cell? ⟨b,off+k,none⟩=some (.string sx):=⟨⟨l.toArray⟩,rfl,Ai⟩;have hsl:sx.size=l.length:=ae8 hsx.out;have HV:Hid _:=by7 wr sx l hsx.out hsk;have hws:w.heap.size+1<=wr.heap.size:=by have:=Aa.size;simpa using this
   clear hc hl5 Ai hfk hf hlk;obtain⟨w5,hw5⟩:=qE wr;subst hw5;have hcvb:=run_bytes_of_string (P:=prog) w5 9 28 5 sx underlying9 underlying28 underlying5;go_wp2_with fail;clear hcvb;obtain⟨hv1,hv2,hv3,hv4⟩:=HV.o;rw[hsl]at hv1 hv2 hv3 hv4;clear HV;generalize hcap:grownCap w5 l.length 0 5 = cap at *;have Rf:cap<=9223372036854775807:=by simpa[maxLen]using hv4
   have HV1:Hid _:=hv1;have HV2:Hid _:=hv2;clear hv1 hv2 hcap;go_loopw [42] (fun i w2=>∃j:Nat,j<=l.length/\i=.int .i64 j/\Hid (Sort.Holds U w2 w5.heap.size 0 ((l.take j).map (fun y=>if y=a then c else y)++l.drop j).toArray)/\Hid (Bq w5 w2)) (fun i _=>l.length-(intOf i).toNat)
   case atStart=>exact⟨0,qM _,rfl,HV1.o,HV2.o⟩
   case round=>
    obtain⟨j,hj,rfl,hh,hb2⟩:=hrel;have cx0:wr.cell? ⟨w.heap.size,0,none⟩=some (.int .i64 3):=(hb2.out.cell (by exact hws)).trans bx0;have cx1:wr.cell? ⟨w.heap.size,1,none⟩=some (.string ⟨#[a,c]⟩):=(hb2.out.cell (by exact hws)).trans bx1;have cx2:wr.cell? ⟨w.heap.size,2,none⟩=some (.int .i64 n):=(hb2.out.cell (by exact hws)).trans bx2;by_cases hjl:j<l.length
    .
     have Em:=hh.out j (by simp only[List.size_toArray];simp;omega);have hce:wr.cell? ⟨w5.heap.size,j,none⟩=some (U l[j]):=by have:=Em.1;rw[qk]at this;rw[this];simp only[List.getElem!_toArray];rw[List.getElem!_eq_getElem?_getD,az4 a c l j hjl];rfl
     have hfro:wr.frozen? ⟨w5.heap.size,j,none⟩=false:=by have:=Em.2;rwa [qk]at this
     clear Em Ac bx0 bx1 bx2;unfold U at hce;by_cases hxa:l[j]=a
     . have HS:Hid _:=aq9 a c l j hjl c (by rw[qF hxa]);have hxe:(l[j].toNat:Int)=(a.toNat:Int):=by rw[hxa]
       rw[hxe]at hce;clear hxe hxa;have hg:((a.toNat:Int)==((ByteArray.mk #[a,c])[0]'(Nat.succ_pos 1) |>.toNat:Int))=true:=beq_self_eq_true (a.toNat:Int);have HN:Hid (∀q,Sort.Holds U ((wr.drewN q).setCell ⟨w5.heap.size,j,none⟩ (U c)) w5.heap.size 0 ((l.take (j+1)).map (fun y=>if y=a then c else y)++l.drop (j+1)).toArray):=fun q=>aX0 (aF2 hh.out) HS.o;have HB:Hid (∀q,Bq w5 ((wr.drewN q).setCell ⟨w5.heap.size,j,none⟩ (U c))):=fun q=>(below_drewN' hb2.out q).setCell (qA _) _;clear hh hb2 HS;go_wp2_with fail;go_quiet (fail);go_wp2_with fail;go_roundw
       case rel=>exact⟨j+1,qO,by go_num,HN.o _,HB.o _⟩
       case measure=>simp[intOf];omega
     .
      have HS:Hid _:=aq9 a c l j hjl l[j] (by rw[qB hxa]);have Az:((l.take j).map (fun y=>if y=a then c else y)++l.drop j).set j l[j]=(l.take j).map (fun y=>if y=a then c else y)++l.drop j:=by
       apply xq;intro i;by_cases hi:i=j
       . subst hi;rw[zu (by simp;omega),az4 a c l i hjl]
       . rw[xe (Ne.symm hi)]
      have hg:((l[j].toNat:Int)==((ByteArray.mk #[a,c])[0]'(Nat.succ_pos 1) |>.toNat:Int))=false:=by rw[qg];intro h;have h':(l[j].toNat:Int)=(a.toNat:Int):=h;exact hxa (UInt8.toNat_inj.1 qO)
      have HN:Hid (Sort.Holds U wr w5.heap.size 0 ((l.take (j+1)).map (fun y=>if y=a then c else y)++l.drop (j+1)).toArray):=by rw[HS.o,Az];exact hh.out
      clear Az HS hh;go_wp2_with fail;go_quiet (fail);go_wp2_with fail;go_roundw
      case rel=>exact⟨j+1,qO,by go_num,aF2 HN.o,below_drewN' hb2.out _⟩
      case measure=>simp[intOf];omega
    .
     have hjL:j=l.length:=qO;obtain⟨tx,hnx,hcv⟩:∃tx,Hid (Value.string tx=S (P2 a c l))/\(convert 28 9 (.slice (some ⟨w5.heap.size,0,none⟩) l.length cap)).run prog wr=.ok (.string tx) wr:=by have h1:=hh.out;rw[hjL,qj,List.drop_length,xz]at h1;have h2:=ao4 (x:=l.map (fun y=>if y=a then c else y)) (cap:=cap) h1 (by simp;omega) hv4;have h3:=ah0 h2;rw[qS]at h3;exact⟨_,rfl,h3⟩
     have HO:Hid _:=A5 Ab hb2.out;have HBB:Hid (Below (w.heap.size+1) (w.alloc (.cells #[.int .i64 3,.string ⟨#[a,c]⟩,.int .i64 n] 54)) wr):=Aa.trans (hb2.out.mono hws);have hwr:w.heap.size+1<=wr.heap.size:=by have:=HBB.o.size;simpa using this
     clear Ab Aa hh hb2 Ac bx0 bx1 bx2;have Ab:=HO.o;have Aa:=HBB.o;clear HO HBB;go_wp2_with ((at_builtin;refine xB _ rfl (.tmp 125) (.tmp 127) 110 rfl (w.heap.size+1) 9 i0 (.string ⟨#[]⟩) 1 16 underlying110 hi hz0 hz1 hz2 rfl (by decide) _ _ _ rfl (World.ownsRow.alloc Ab _) ⟨wr.heap.size,0,none⟩ 1 1 [.string tx] rfl rfl ?c1 ?c2 ?c3 ?c4 ?c5 ?_))
     case c1=>
      intro j u hj
      match j,hj with
      | 0,hj=>simp at hj;subst hj;simp[Addr.add]
     case c2=>intro u hu;simp at hu;subst hu;rfl
     case c3=>unfold maxLen;omega
     case c4=>omega
     case c5=>have:=Aa.size;simp at this;simp;omega
     . intro v' w1 Ag Am _;have R:Hid _:=Q8 Ab Aa hnx.out Ag Am;clear Ag Am Ab Aa hcv;go_wp2_with fail;go_roundw
       case rel=>exact⟨k+1,qO,by go_num,by rw[Hf.o];exact R.o.1,R.o.2⟩
       case measure=>simp[intOf];omega
  . clear hl5;have hkn:k=L:=qO;subst hkn;have HB:Hid _:=l8 Aa;clear Aa;go_wp2_with fail;go_ret;exact⟨_,rfl,Ab,HB.o⟩
end Go.Proofs.YtmejdflmcikkdaaGreatDoor
namespace Go.Gs
open Go.RowKit
variable {α:Type}{k:Nat}
theorem ay8(f:Nat->Option qU)(k:Nat):(List.range (k+1)).filterMap f=(List.range k).filterMap f++(f k).toList:=by
 rw[List.range_succ,List.filterMap_append]
 cases h:f k <;> simp[h]
theorem aH7{ls:List α}(h:k<ls.length):ls.take (k+1)=ls.take k++[ls[k]]:=by rw[qZ,gEl h];rfl
theorem aV5(ls:qL)(p:qU->Bool)(f:Nat->Option qU)(hf:∀i s,ls[i]?=some s->f i=if p s=true then some s else none):(List.range ls.length).filterMap f=ls.filter p:=by
 have:∀k,k<=ls.length->(List.range k).filterMap f=(ls.take k).filter p:=by
  intro k
  induction k with
  | zero=>intro _;simp
  | succ k ih=>intro h;rw[ay8,ih qO,aH7 qO,List.filter_append,hf k _ (gEl qO)];congr 1;split <;> simp_all
 have:=this _ (qA _);rwa [qj]at this
theorem bb6(ls:qL)(g:qU->qU)(f:Nat->Option qU)(hf:∀i s,ls[i]?=some s->f i=some (g s)):(List.range ls.length).filterMap f=ls.map g:=by
 have:∀k,k<=ls.length->(List.range k).filterMap f=(ls.take k).map g:=by
  intro k
  induction k with
  | zero=>intro _;simp
  | succ k ih=>intro h;rw[ay8,ih qO,aH7 qO,xF,hf k _ (gEl qO)];simp
 have:=this _ (qA _);rwa [qj]at this
theorem ca2(ls:qL)(n:Int)(f:Nat->Option qU)(hf:∀i s,ls[i]?=some s->f i=if (i:Int)<n then some s else none):(List.range ls.length).filterMap f=ls.take n.toNat:=by
 have:∀k,k<=ls.length->(List.range k).filterMap f=(ls.take k).take n.toNat:=by
  intro k
  induction k with
  | zero=>intro _;simp
  | succ k ih=>
   intro h;rw[ay8,ih qO,aH7 qO,List.take_append,hf k _ (gEl qO)];congr 1;rw[qX,zA qO];by_cases hk:(k:Int)<n
   . rw[qF hk,qP (by simp;omega)];rfl
   . rw[qB hk,show n.toNat-k=0 by omega];rfl
 have:=this _ (qA _);rwa [qj]at this
theorem ca3(ls:qL)(n:Int)(hn:0<=n)(f:Nat->Option qU)(hf:∀i s,ls[i]?=some s->f i=if (ls.length:Int)-n<=(i:Int) then some s else none):(List.range ls.length).filterMap f=ls.drop (ls.length-n.toNat):=by
 have:∀k,k<=ls.length->(List.range k).filterMap f=(ls.take k).drop (ls.length-n.toNat):=by
  intro k
  induction k with
  | zero=>intro _;simp
  | succ k ih=>
   intro h;rw[ay8,ih qO,aH7 qO,List.drop_append,hf k _ (gEl qO)];congr 1;rw[qX,zA qO];by_cases hk:(ls.length:Int)-n<=(k:Int)
   . rw[qF hk,show ls.length-n.toNat-k=0 by omega];rfl
   . rw[qB hk,qi (by simp;omega)];rfl
 have:=this _ (qA _);rwa [qj]at this
theorem ca5(ls:qL)(f:Nat->Option qU)(hf:∀i s,ls[i]?=some s->f i=if i=0\/ls[i-1]? ≠ some s then some s else none):(List.range ls.length).filterMap f=Lib.compact ls:=by
 have:∀k,k<=ls.length->(List.range k).filterMap f=Lib.compactUpTo ls.toArray k:=by
  intro k
  induction k with
  | zero=>intro _;rfl
  | succ k ih=>
   intro h;rw[ay8,ih qO,Lib.compactUpTo_succ,hf k _ (gEl (show k<ls.length by omega))];congr 1;have e1:ls.toArray[k]! = ls[k]:=by simp[getElem!_pos,show k<ls.length by omega]
   have e2:ls.toArray[k-1]! = ls[k-1]:=by simp[getElem!_pos,show k-1<ls.length by omega]
   have e3:ls[k-1]?=some ls[k-1]:=gEl qO;unfold Lib.keeps;rw[e1,e2,e3];by_cases hk:k=0\/some ls[k-1]≠some ls[k]
   . have hk':k=0\/ls[k]≠ls[k-1]:=hk.imp id (fun h e=>h (by rw[e]));rw[qF hk,qV hk',qF rfl];rfl
   . have hk':¬(k=0\/ls[k]≠ls[k-1]):=fun h=>hk (h.imp id (fun h e=>h (by injection e with e;exact e.symm)));rw[qB hk,qG hk'];rfl
 exact this _ (qA _)
end Go.Gs
namespace Go.Proofs.YtmejdflmcikkdaaGreatDoor
open Go.RowKit Go.Gs Tryz
theorem aO1(c:Cmd)(hc:chk c=0)(v:Value)(ls:qL)(w:World)(hl0:Reads w v ls.length (ls.map S))(hLm:ls.length<=225000000)(hsz:∀s∈ls,s.length<=225000000)(hsh:w.ShapedOpen prog)(hK:Q9 w):
 Calls prog 55 #[c.v,v] w fun e w'=>∃r,e=.returned r/\Reads w' r (made c ls).length ((made c ls).map S)/\Bq w w':=by
 have hk:=aB7 c hc;have Gh:=bF0 hc;have hsw:=bR7 hc;obtain⟨⟨m,hm⟩,htab⟩:=hK;obtain⟨_,al,cl,rfl,_⟩:=id hl0;obtain⟨k,word,n⟩:=c;unfold Cmd.v
 have own:∀(f:Nat->Option qU)(D:qL){args:Array Value},(List.range ls.length).filterMap f=D ->
  (Calls prog 55 args w fun e w'=>∃r,e=.returned r/\w'.ownsRow (w.heap.size+1) 9 1 r (M f ls.length).length ((M f ls.length).map S)/\Bq w w') ->
  (Calls prog 55 args w fun e w'=>∃r,e=.returned r/\Reads w' r D.length (D.map S)/\Bq w w'):=by
  intro f D args hD h
  refine h.mono ?_
  rintro e w'⟨r,rfl,h1,h2⟩
  have:M f ls.length=D:=hD
  rw[this]at h1
  exact⟨r,rfl,Reads.of_owns h1,h2⟩
 have:k=1\/k=2\/k=3\/k=4\/k=5\/k=6\/k=7\/k=8\/k=9\/k=10:=by simp only at hk;omega
 rcases this with rfl | rfl | rfl | rfl | rfl | rfl | rfl | rfl | rfl | rfl
 . rw[made1 _ rfl];have hf:∀(i:Nat) s,ls[i]?=some s->(fun i:Nat=>(ls[i]?).bind fun s=>if Lib.contains s word=true then some s else none) i=if Lib.contains s word=true then some s else none:=by intro i s h;simp[h]
   exact own _ _ (aV5 ls (fun s=>Lib.contains s word) _ hf) (bH5 al cl word n ls w hl0 hLm hsz _ hsh hf)
 . rw[made2 _ rfl];have hf:∀(i:Nat) s,ls[i]?=some s->(fun i:Nat=>(ls[i]?).bind fun s=>if ¬Lib.contains s word=true then some s else none) i=if ¬Lib.contains s word=true then some s else none:=by intro i s h;simp[h]
   exact own _ _ (aV5 ls (fun s=>!Lib.contains s word) _ (fun i s h=>(hf i s h).trans (by simp))) (bH6 al cl word n ls w hl0 hLm hsz _ hsh hf)
 . rw[made3 _ rfl];obtain⟨a,b,rfl⟩:=bn5 (hsw rfl).1;have hf:∀(i:Nat) s,ls[i]?=some s->(fun i:Nat=>(ls[i]?).map (P2 a b)) i=some (P2 a b s):=by intro i s h;simp[h]
   exact own _ _ (bb6 ls (P2 a b) _ hf) (bM3 al cl n ls w hl0 hLm hsz a b _ hf)
 . rw[bD7 _ rfl];obtain⟨h1,h2⟩:=Gh rfl;have hf:∀(i:Nat) s,ls[i]?=some s->(fun i:Nat=>(ls[i]?).map (H6 n)) i=some (H6 n s):=by intro i s h;simp[h]
   exact own _ _ (bb6 ls (H6 n) _ hf) (by6 al cl word n ls w hl0 hLm hsz m hm h1 h2 _ hf)
 . rw[bD8 _ rfl];have hf:∀(i:Nat) s,ls[i]?=some s->(fun i:Nat=>(ls[i]?).map List.reverse) i=some s.reverse:=by intro i s h;simp[h]
   exact own _ _ (bb6 ls List.reverse _ hf) (bM2 al cl word n ls w hl0 hLm hsz _ hf)
 .
  rw[aI8 _ rfl];have hf:∀(i:Nat) s,ls[i]?=some s->(fun i:Nat=>ls[i]?) i=some s:=by intro i s h;simpa using h
  have hM:M (fun i:Nat=>ls[i]?) ls.length=ls:=by have:=bb6 ls id _ hf;rw[List.map_id]at this;exact this
  have h:=bL8 al cl word n ls w hl0 hLm hsz _ hf;rw[hM]at h;exact h
 . rw[bR4 _ rfl];have hf:∀(i:Nat) s,ls[i]?=some s->(fun i:Nat=>(ls[i]?).bind fun s=>if i=0\/ls[i-1]? ≠ some s then some s else none) i=if i=0\/ls[i-1]? ≠ some s then some s else none:=by intro i s h;simp[h]
   exact own _ _ (ca5 ls _ hf) (bL9 al cl word n ls w hl0 hLm hsz _ hf)
 . rw[bR5 _ rfl];exact by5 al cl word n ls w hl0 hLm hsz (fun _=>none) (fun _ _ _=>rfl) htab
 . rw[bR6 _ rfl];have hf:∀(i:Nat) s,ls[i]?=some s->(fun i:Nat=>(ls[i]?).bind fun s=>if (i:Int)<n then some s else none) i=if (i:Int)<n then some s else none:=by intro i s h;simp[h]
   exact own _ _ (ca2 ls n _ hf) (bH3 al cl word n ls w hl0 hLm hsz _ hf)
 . rw[bt5 _ rfl];obtain⟨h1,h2⟩:=Gh rfl;have hf:∀(i:Nat) s,ls[i]?=some s->(fun i:Nat=>(ls[i]?).bind fun s=>if (ls.length:Int)-n<=(i:Int) then some s else none) i=if (ls.length:Int)-n<=(i:Int) then some s else none:=by intro i s h;simp[h]
   exact own _ _ (ca3 ls n (by simp only at h1;omega) _ hf) (bH4 al cl word n ls w hl0 hLm hsz _ h1 h2 hf)
end Go.Proofs.YtmejdflmcikkdaaGreatDoor
