/- What the reference's Made does to lines, and more. -/
import Derived.Test.YtllgglolcgdehaaGreatDoorSAb
import Derived.Test.YtllgglolcgdehaaGreatDoorSa13
set_option linter.all false
set_option maxRecDepth 100000
set_option maxHeartbeats 16000000
namespace Go.Proofs.YtllgglolcgdehaaGreatDoor
open Go.RowKit Go.Gs Tryz
theorem bC9(w:World)(sx:ByteArray)(x:List UInt8)(hsx:Value.string sx=S x)(hx:x.length<=900000):
 Sort.Holds U (w.alloc (.cells (bytesRow sx (grownCap w sx.size 0 5)) 5 ((bytesRow sx (grownCap w sx.size 0 5)).size,(bytesRow sx (grownCap w sx.size 0 5)).size+1))).drew w.heap.size 0 x.toArray /\
 Bq w (w.alloc (.cells (bytesRow sx (grownCap w sx.size 0 5)) 5 ((bytesRow sx (grownCap w sx.size 0 5)).size,(bytesRow sx (grownCap w sx.size 0 5)).size+1))).drew /\
 x.length<=grownCap w sx.size 0 5 /\ grownCap w sx.size 0 5 <= maxLen:=by
 have hs:sx.size=x.length:=ae3 hsx;have hd:sx.data.toList=x:=ae2 hsx;have hc1:x.length<=grownCap w sx.size 0 5:=by rw[<- hs];exact grownCap_ge _ _ _ _
 have hc2:grownCap w sx.size 0 5 <= maxLen:=zv _ _ _ _ (by rw[hs];unfold maxLen;omega);have An:x.length<=(bytesRow sx (grownCap w sx.size 0 5)).size:=by unfold bytesRow;have:sx.data.size=x.length:=hs;simp;omega
 exact⟨aO0 w sx _ _ x hd An hc1,((qI _ w).alloc (qB _) _).drew,hc1,hc2⟩
theorem aG5{W:World}{b k:Nat}{d:Array UInt8}(h:Sort.Holds U W b 0 d):Sort.Holds U (W.drewN k) b 0 d:=by intro j hj;obtain⟨h1,h2⟩:=h j hj;exact⟨by simpa using h1,by simpa using h2⟩
theorem bQ1(al:Option Addr)(cl:Nat)(n:Int)(ls:List (List UInt8))(w:World)(hl:Reads w (.slice al ls.length cl) ls.length (ls.map S))(hLm:ls.length<=900000)(hsz:∀s∈ls,s.length<=900000)(a c:UInt8)(f:Nat->Option (List UInt8))(hf:∀i s,ls[i]? = some s->f i=some (J8 a c s)):
 Calls prog 85 #[.agg #[.int .i64 3,.string ⟨#[a,c]⟩,.int .i64 n],.slice al ls.length cl] w fun e w'=>∃r,e=.returned r/\w'.ownsRow (w.heap.size+1) 9 1 r (M f ls.length).length ((M f ls.length).map S)/\Bq w w':=by
 obtain⟨i0,hi,hz0,hz1,hz2⟩:=info_parts N6;have Hl:Hid _:=hl;obtain⟨-,al',cl',e4,-,-,hl5⟩:=hl;simp only[xZ,true_and]at e4;obtain⟨rfl,rfl⟩:=e4;generalize hL:ls.length=L at *;go_enter Tryz.func85,Tryz.ntmps85;go_wp2_with fail
 go_loopw [5,16] (fun v5 i wr=>∃k:Nat,k<=L/\i=.int .i64 k/\wr.ownsRow (w.heap.size+1) 9 1 v5 (M f k).length ((M f k).map S)/\Below (w.heap.size+1) (w.alloc (.cells #[.int .i64 3,.string ⟨#[a,c]⟩,.int .i64 n] 70)) wr)
  (fun _ i _=>L-(intOf i).toNat)
 case atStart=>exact⟨0,qP _,rfl,by rw[ag0];exact World.ownsRow_nil _ _ _ _,qI _ _⟩
 case round=>
  obtain⟨k,hk,rfl,Ab,Aa⟩:=hrel;obtain⟨bx0,bx1,bx2⟩:=G3 Aa;have hMl:=as7 f k;by_cases hlt:k<L
  .
   obtain⟨b,off,rfl,hc⟩:=hl5 (by omega);have Ah:wr.cell? ⟨b,off+k,none⟩=some (.string ⟨(ls[k]'(by omega)).toArray⟩):=((x8 Aa).cell (bLt w _ (hc k (S (ls[k]'(by omega))) (by simp[hL,hlt])))).trans (hc k _ (by simp[S,hL,hlt]));have hfk:=hf k (ls[k]'(by omega)) (gEl _);have hsk:(ls[k]'(by omega)).length<=900000:=hsz _ (zH _);have Hf:Hid _:=ag1 hfk;generalize hlk:ls[k]'(by omega)=l at *;obtain⟨sx,hsx,Ac⟩:∃sx:ByteArray,Hid (Value.string sx=S l)/\wr.cell? ⟨b,off+k,none⟩=some (.string sx):=⟨⟨l.toArray⟩,rfl,Ah⟩;have hsl:sx.size=l.length:=ae3 hsx.out;have HV:Hid _:=bC9 wr sx l hsx.out hsk;have hws:w.heap.size+1<=wr.heap.size:=by have:=Aa.size;simpa using this
   clear hc hl5 Ah hfk hf hlk;obtain⟨w5,hw5⟩:=qE wr;subst hw5;have hcvb:=run_bytes_of_string (P:=prog) w5 9 28 5 sx underlying9 underlying28 underlying5;go_wp2_with fail;clear hcvb;obtain⟨hv1,hv2,hv3,hv4⟩:=HV.out;rw[hsl]at hv1 hv2 hv3 hv4;clear HV;generalize hcap:grownCap w5 l.length 0 5 = cap at *;have Ot:cap<=9223372036854775807:=by simpa[maxLen]using hv4
   have HV1:Hid _:=hv1;have HV2:Hid _:=hv2;clear hv1 hv2 hcap;go_loopw [42] (fun i w2=>∃j:Nat,j<=l.length/\i=.int .i64 j/\Hid (Sort.Holds U w2 w5.heap.size 0 ((l.take j).map (fun y=>if y=a then c else y)++l.drop j).toArray)/\Hid (Bq w5 w2)) (fun i _=>l.length-(intOf i).toNat)
   case atStart=>exact⟨0,qP _,rfl,HV1.out,HV2.out⟩
   case round=>
    obtain⟨j,hj,rfl,hh,hb2⟩:=hrel;have cx0:wr.cell? ⟨w.heap.size,0,none⟩=some (.int .i64 3):=(hb2.out.cell (by exact hws)).trans bx0;have cx1:wr.cell? ⟨w.heap.size,1,none⟩=some (.string ⟨#[a,c]⟩):=(hb2.out.cell (by exact hws)).trans bx1;have cx2:wr.cell? ⟨w.heap.size,2,none⟩=some (.int .i64 n):=(hb2.out.cell (by exact hws)).trans bx2;by_cases hjl:j<l.length
    .
     have Ed:=hh.out j (by simp only[zU];simp;omega);have hce:wr.cell? ⟨w5.heap.size,j,none⟩=some (U l[j]):=by have:=Ed.1;rw[qa]at this;rw[this];simp only[List.getElem!_toArray];rw[List.getElem!_eq_getElem?_getD,az0 a c l j hjl];rfl
     have hfro:wr.frozen? ⟨w5.heap.size,j,none⟩=false:=by have:=Ed.2;rwa [qa]at this
     clear Ed Ac bx0 bx1 bx2;unfold U at hce;by_cases hxa:l[j]=a
     . have HS:Hid _:=ar4 a c l j hjl c (by rw[qF hxa]);have hxe:(l[j].toNat:Int)=(a.toNat:Int):=by rw[hxa]
       rw[hxe]at hce;clear hxe hxa;have hg:((a.toNat:Int)==((ByteArray.mk #[a,c])[0]'(Nat.succ_pos 1) |>.toNat:Int))=true:=beq_self_eq_true (a.toNat:Int);have HN:Hid (∀q,Sort.Holds U ((wr.drewN q).setCell ⟨w5.heap.size,j,none⟩ (U c)) w5.heap.size 0 ((l.take (j+1)).map (fun y=>if y=a then c else y)++l.drop (j+1)).toArray):=fun q=>aY6 (aG5 hh.out) HS.out;have HB:Hid (∀q,Bq w5 ((wr.drewN q).setCell ⟨w5.heap.size,j,none⟩ (U c))):=fun q=>(below_drewN' hb2.out q).setCell (qB _) _;clear hh hb2 HS;go_wp2_with fail;go_quiet (fail);go_wp2_with fail;go_roundw
       case rel=>exact⟨j+1,by omega,by go_num,HN.out _,HB.out _⟩
       case measure=>simp[intOf];omega
     .
      have HS:Hid _:=ar4 a c l j hjl l[j] (by rw[qA hxa]);have Be:((l.take j).map (fun y=>if y=a then c else y)++l.drop j).set j l[j]=(l.take j).map (fun y=>if y=a then c else y)++l.drop j:=by
       apply xX;intro i;by_cases hi:i=j
       . subst hi;rw[xy (by simp;omega),az0 a c l i hjl]
       . rw[xU (Ne.symm hi)]
      have hg:((l[j].toNat:Int)==((ByteArray.mk #[a,c])[0]'(Nat.succ_pos 1) |>.toNat:Int))=false:=by rw[beq_eq_false_iff_ne];intro h;have h':(l[j].toNat:Int)=(a.toNat:Int):=h;exact hxa (UInt8.toNat_inj.1 (by omega))
      have HN:Hid (Sort.Holds U wr w5.heap.size 0 ((l.take (j+1)).map (fun y=>if y=a then c else y)++l.drop (j+1)).toArray):=by rw[HS.out,Be];exact hh.out
      clear Be HS hh;go_wp2_with fail;go_quiet (fail);go_wp2_with fail;go_roundw
      case rel=>exact⟨j+1,by omega,by go_num,aG5 HN.out,below_drewN' hb2.out _⟩
      case measure=>simp[intOf];omega
    .
     have hjL:j=l.length:=by omega
     obtain⟨tx,hnx,hcv⟩:∃tx,Hid (Value.string tx=S (J8 a c l))/\(convert 28 9 (.slice (some ⟨w5.heap.size,0,none⟩) l.length cap)).run prog wr=.ok (.string tx) wr:=by have h1:=hh.out;rw[hjL,qZ,List.drop_length,xH]at h1;have h2:=ao0 (x:=l.map (fun y=>if y=a then c else y)) (cap:=cap) h1 (by simp;omega) hv4;have h3:=ah6 h2;rw[qM]at h3;exact⟨_,rfl,h3⟩
     have HO:Hid _:=D5 Ab hb2.out;have HBB:Hid (Below (w.heap.size+1) (w.alloc (.cells #[.int .i64 3,.string ⟨#[a,c]⟩,.int .i64 n] 70)) wr):=Aa.trans (hb2.out.mono hws);have hwr:w.heap.size+1<=wr.heap.size:=by have:=HBB.out.size;simpa using this
     clear Ab Aa hh hb2 Ac bx0 bx1 bx2;have Ab:=HO.out;have Aa:=HBB.out;clear HO HBB;go_wp2_with ((at_builtin;refine qx _ rfl (.tmp 125) (.tmp 127) 53 rfl (w.heap.size+1) 9 i0 (.string ⟨#[]⟩) 1 16 underlying53 hi hz0 hz1 hz2 rfl (by decide) _ _ _ rfl (World.ownsRow.alloc Ab _) ⟨wr.heap.size,0,none⟩ 1 1 [.string tx] rfl rfl ?c1 ?c2 ?c3 ?c4 ?c5 ?_))
     case c1=>
      intro j u hj
      match j,hj with
      | 0,hj=>simp at hj;subst hj;simp[Addr.add]
     case c2=>intro u hu;simp at hu;subst hu;rfl
     case c3=>unfold maxLen;omega
     case c4=>omega
     case c5=>have:=Aa.size;simp at this;simp;omega
     . intro v' w1 Ag Af _;have R:Hid _:=O6 Ab Aa hnx.out Ag Af;clear Ag Af Ab Aa hcv;go_wp2_with fail;go_roundw
       case rel=>exact⟨k+1,by omega,by go_num,by rw[Hf.out];exact R.out.1,R.out.2⟩
       case measure=>simp[intOf];omega
  . clear hl5;have hkn:k=L:=by omega
    subst hkn;have HB:Hid _:=x8 Aa;clear Aa;go_wp2_with fail;go_ret;exact⟨_,rfl,Ab,HB.out⟩
end Go.Proofs.YtllgglolcgdehaaGreatDoor
namespace Go.Gs
open Go.RowKit
theorem az5(f:Nat->Option (List UInt8))(k:Nat):(List.range (k+1)).filterMap f=(List.range k).filterMap f++(f k).toList:=by
 rw[zl,List.filterMap_append]
 cases h:f k <;> simp[h]
theorem aK1{α:Type}{ls:List α}{k:Nat}(h:k<ls.length):ls.take (k+1)=ls.take k++[ls[k]]:=by rw[qX,gEl h];rfl
theorem aZ1(ls:List (List UInt8))(p:List UInt8->Bool)(f:Nat->Option (List UInt8))(hf:∀i s,ls[i]? = some s->f i=if p s=true then some s else none):(List.range ls.length).filterMap f=ls.filter p:=by
 have:∀k,k<=ls.length->(List.range k).filterMap f=(ls.take k).filter p:=by
  intro k
  induction k with
  | zero=>intro _;simp
  | succ k ih=>
   intro h
   rw[az5,ih (by omega),aK1 (by omega),List.filter_append,hf k _ (gEl (by omega))]
   congr 1
   split <;> simp_all
 have:=this _ (qB _);rwa [qZ]at this
theorem bg1(ls:List (List UInt8))(g:List UInt8->List UInt8)(f:Nat->Option (List UInt8))(hf:∀i s,ls[i]? = some s->f i=some (g s)):(List.range ls.length).filterMap f=ls.map g:=by
 have:∀k,k<=ls.length->(List.range k).filterMap f=(ls.take k).map g:=by
  intro k
  induction k with
  | zero=>intro _;simp
  | succ k ih=>
   intro h
   rw[az5,ih (by omega),aK1 (by omega),qz,hf k _ (gEl (by omega))]
   simp
 have:=this _ (qB _);rwa [qZ]at this
theorem cl1(ls:List (List UInt8))(n:Int)(f:Nat->Option (List UInt8))(hf:∀i s,ls[i]? = some s->f i=if (i:Int)<n then some s else none):(List.range ls.length).filterMap f=ls.take n.toNat:=by
 have:∀k,k<=ls.length->(List.range k).filterMap f=(ls.take k).take n.toNat:=by
  intro k
  induction k with
  | zero=>intro _;simp
  | succ k ih=>
   intro h
   rw[az5,ih (by omega),aK1 (by omega),List.take_append,hf k _ (gEl (by omega))]
   congr 1
   rw[qL,ql (by omega)]
   by_cases hk:(k:Int)<n
   . rw[qF hk,qO (by simp;omega)];rfl
   . rw[qA hk,show n.toNat-k=0 by omega];rfl
 have:=this _ (qB _);rwa [qZ]at this
theorem cl2(ls:List (List UInt8))(n:Int)(hn:0<=n)(f:Nat->Option (List UInt8))(hf:∀i s,ls[i]? = some s->f i=if (ls.length:Int)-n<=(i:Int) then some s else none):(List.range ls.length).filterMap f=ls.drop (ls.length-n.toNat):=by
 have:∀k,k<=ls.length->(List.range k).filterMap f=(ls.take k).drop (ls.length-n.toNat):=by
  intro k
  induction k with
  | zero=>intro _;simp
  | succ k ih=>
   intro h
   rw[az5,ih (by omega),aK1 (by omega),List.drop_append,hf k _ (gEl (by omega))]
   congr 1
   rw[qL,ql (by omega)]
   by_cases hk:(ls.length:Int)-n<=(k:Int)
   . rw[qF hk,show ls.length-n.toNat-k=0 by omega];rfl
   . rw[qA hk,qt (by simp;omega)];rfl
 have:=this _ (qB _);rwa [qZ]at this
theorem cl3(ls:List (List UInt8))(f:Nat->Option (List UInt8))(hf:∀i s,ls[i]? = some s->f i=if i=0\/ls[i-1]? ≠ some s then some s else none):(List.range ls.length).filterMap f=Lib.compact ls:=by
 have:∀k,k<=ls.length->(List.range k).filterMap f=Lib.compactUpTo ls.toArray k:=by
  intro k
  induction k with
  | zero=>intro _;rfl
  | succ k ih=>
   intro h
   rw[az5,ih (by omega),Lib.compactUpTo_succ,hf k _ (gEl (show k<ls.length by omega))]
   congr 1
   have e1:ls.toArray[k]! = ls[k]:=by simp[zP,show k<ls.length by omega]
   have e2:ls.toArray[k-1]! = ls[k-1]:=by simp[zP,show k-1<ls.length by omega]
   have e3:ls[k-1]? = some ls[k-1]:=gEl (by omega)
   unfold Lib.keeps
   rw[e1,e2,e3]
   by_cases hk:k=0\/some ls[k-1]≠some ls[k]
   . have hk':k=0\/ls[k]≠ls[k-1]:=hk.imp id (fun h e=>h (by rw[e]))
     rw[qF hk,qd hk',qF rfl];rfl
   . have hk':¬(k=0\/ls[k]≠ls[k-1]):=fun h=>hk (h.imp id (fun h e=>h (by injection e with e;exact e.symm)))
     rw[qA hk,qU hk'];rfl
 exact this _ (qB _)
end Go.Gs
namespace Go.Proofs.YtllgglolcgdehaaGreatDoor
open Go.RowKit Go.Gs Tryz
theorem cb6(c:Cmd)(hc:chk c=0)(v:Value)(ls:List (List UInt8))(w:World)(hl0:Reads w v ls.length (ls.map S))(hLm:ls.length<=900000)(hsz:∀s∈ls,s.length<=900000)(hsh:w.ShapedOpen prog)(hK:V2 w):
 Calls prog 85 #[c.v,v] w fun e w'=>∃r,e=.returned r/\Reads w' r (made c ls).length ((made c ls).map S)/\Bq w w':=by
 have hk:=X6 c hc;have Gp:=bI8 hc;have hsw:=bx6 hc;obtain⟨⟨m,hm⟩,htab⟩:=hK;obtain⟨_,al,cl,rfl,_⟩:=id hl0;obtain⟨k,word,n⟩:=c;unfold Cmd.v
 have own:∀(f:Nat->Option (List UInt8))(D:List (List UInt8)){args:Array Value},(List.range ls.length).filterMap f=D ->
  (Calls prog 85 args w fun e w'=>∃r,e=.returned r/\w'.ownsRow (w.heap.size+1) 9 1 r (M f ls.length).length ((M f ls.length).map S)/\Bq w w') ->
  (Calls prog 85 args w fun e w'=>∃r,e=.returned r/\Reads w' r D.length (D.map S)/\Bq w w'):=by
  intro f D args hD h
  refine h.mono ?_
  rintro e w'⟨r,rfl,h1,h2⟩
  have:M f ls.length=D:=hD
  rw[this]at h1
  exact⟨r,rfl,Reads.of_owns h1,h2⟩
 have:k=1\/k=2\/k=3\/k=4\/k=5\/k=6\/k=7\/k=8\/k=9\/k=10:=by simp only at hk;omega
 rcases this with rfl | rfl | rfl | rfl | rfl | rfl | rfl | rfl | rfl | rfl
 . rw[made1 _ rfl];have hf:∀(i:Nat) s,ls[i]? = some s->(fun i:Nat=>(ls[i]?).bind fun s=>if Lib.contains s word=true then some s else none) i=if Lib.contains s word=true then some s else none:=by intro i s h;simp[h]
   exact own _ _ (aZ1 ls (fun s=>Lib.contains s word) _ hf) (bM4 al cl word n ls w hl0 hLm hsz _ hsh hf)
 . rw[made2 _ rfl];have hf:∀(i:Nat) s,ls[i]? = some s->(fun i:Nat=>(ls[i]?).bind fun s=>if ¬Lib.contains s word=true then some s else none) i=if ¬Lib.contains s word=true then some s else none:=by intro i s h;simp[h]
   exact own _ _ (aZ1 ls (fun s=>!Lib.contains s word) _ (fun i s h=>(hf i s h).trans (by simp))) (bM5 al cl word n ls w hl0 hLm hsz _ hsh hf)
 . rw[made3 _ rfl];obtain⟨a,b,rfl⟩:=bp3 (hsw rfl).1;have hf:∀(i:Nat) s,ls[i]? = some s->(fun i:Nat=>(ls[i]?).map (J8 a b)) i=some (J8 a b s):=by intro i s h;simp[h]
   exact own _ _ (bg1 ls (J8 a b) _ hf) (bQ1 al cl n ls w hl0 hLm hsz a b _ hf)
 . rw[aV8 _ rfl];obtain⟨h1,h2⟩:=Gp rfl;have hf:∀(i:Nat) s,ls[i]? = some s->(fun i:Nat=>(ls[i]?).map (E4 n)) i=some (E4 n s):=by intro i s h;simp[h]
   exact own _ _ (bg1 ls (E4 n) _ hf) (bB9 al cl word n ls w hl0 hLm hsz m hm h1 h2 _ hf)
 . rw[aV9 _ rfl];have hf:∀(i:Nat) s,ls[i]? = some s->(fun i:Nat=>(ls[i]?).map List.reverse) i=some s.reverse:=by intro i s h;simp[h]
   exact own _ _ (bg1 ls List.reverse _ hf) (bP7 al cl word n ls w hl0 hLm hsz _ hf)
 .
  rw[aE7 _ rfl];have hf:∀(i:Nat) s,ls[i]? = some s->(fun i:Nat=>ls[i]?) i=some s:=by intro i s h;simpa using h
  have hM:M (fun i:Nat=>ls[i]?) ls.length=ls:=by have:=bg1 ls id _ hf;rw[List.map_id]at this;exact this
  have h:=bP3 al cl word n ls w hl0 hLm hsz _ hf;rw[hM]at h;exact h
 . rw[aK6 _ rfl];have hf:∀(i:Nat) s,ls[i]? = some s->(fun i:Nat=>(ls[i]?).bind fun s=>if i=0\/ls[i-1]? ≠ some s then some s else none) i=if i=0\/ls[i-1]? ≠ some s then some s else none:=by intro i s h;simp[h]
   exact own _ _ (cl3 ls _ hf) (bP4 al cl word n ls w hl0 hLm hsz _ hf)
 . rw[aE8 _ rfl];exact av7 al cl word n ls w hl0 hLm hsz (fun _=>none) (fun _ _ _=>rfl) htab
 . rw[ax1 _ rfl];have hf:∀(i:Nat) s,ls[i]? = some s->(fun i:Nat=>(ls[i]?).bind fun s=>if (i:Int)<n then some s else none) i=if (i:Int)<n then some s else none:=by intro i s h;simp[h]
   exact own _ _ (cl1 ls n _ hf) (bM2 al cl word n ls w hl0 hLm hsz _ hf)
 . rw[av2 _ rfl];obtain⟨h1,h2⟩:=Gp rfl;have hf:∀(i:Nat) s,ls[i]? = some s->(fun i:Nat=>(ls[i]?).bind fun s=>if (ls.length:Int)-n<=(i:Int) then some s else none) i=if (ls.length:Int)-n<=(i:Int) then some s else none:=by intro i s h;simp[h]
   exact own _ _ (cl2 ls n (by simp only at h1;omega) _ hf) (bM3 al cl word n ls w hl0 hLm hsz _ h1 h2 hf)
end Go.Proofs.YtllgglolcgdehaaGreatDoor
