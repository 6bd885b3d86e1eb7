/- What Line does, and more. -/
import Derived.Test.YtllgglolcgdehaaGreatDoorSAb
import Derived.Shelf.Spec.SlicesInsertGrow
import Derived.Test.YtllgglolcgdehaaGreatDoorSa04
import Derived.Test.YtllgglolcgdehaaGreatDoorSa07
set_option linter.all false
set_option maxRecDepth 100000
set_option maxHeartbeats 16000000
namespace Go.Proofs.YtllgglolcgdehaaGreatDoor
open Go.RowKit Go.Gs Tryz
def ac9(fs:List SFile)(x:SLine):List UInt8 × Int:=if lchk x=0 then (if fchk fs=0 then m9 fs x else ([],fchk fs)) else ([],lchk x)
theorem bP0{fs:List SFile}{x:SLine}(h:lchk x≠0):ac9 fs x=([],lchk x):=by unfold ac9;rw[qA h]
theorem bP1{fs:List SFile}{x:SLine}(h:lchk x=0)(hg:(o6 fs x.fr).2≠0):ac9 fs x=([],(o6 fs x.fr).2):=by
 unfold ac9;rw[qF h];unfold o6 at hg ⊢;by_cases hf:fchk fs=0
 . rw[qF hf]at hg ⊢;rw[qF hf];unfold m9;rw[qA hg]
 . rw[qA hf,qA hf]
theorem ca5{fs:List SFile}{x:SLine}(h:lchk x=0)(hg:(o6 fs x.fr).2=0):ac9 fs x=(M8 x.cs (o6 fs x.fr).1,0):=by
 unfold ac9;rw[qF h];unfold o6 at hg ⊢;by_cases hf:fchk fs=0
 . rw[qF hf]at hg ⊢;rw[qF hf];unfold m9;rw[qF hg]
 . rw[qA hf]at hg;exact absurd hg hf
theorem aU3(fs:List SFile)(fr:List (List UInt8)):(o6 fs fr).1.length<=4000/\whole (o6 fs fr).1:=by
 unfold o6;split
 . exact⟨(ab2 fs fr).2,(ab2 fs fr).1⟩
 . exact⟨by simp,aq4⟩
theorem aO6{cs:List Cmd}{k:Nat}{c:Cmd}(h:cs[k]? = some c)(b:List UInt8):M8 (cs.take (k+1)) b=U4 c (M8 (cs.take k) b):=by rw[qX,h,xa,be0];rfl
theorem ck6(x:SLine)(ao af ad:Option Addr)(cap cf cd:Nat)(fs:List SFile)(w:World)(hf:j6 w (.slice ao fs.length cap) fs)(Ad:∀f∈fs,M9 f)(hfr:Reads w (.slice af x.fr.length cf) x.fr.length (x.fr.map S))(hcs:H9 w (.slice ad x.cs.length cd) x.cs)(hfx:M3 x)(hK:V2 w):
 Calls prog 40 #[.slice ao fs.length cap,.agg #[.slice af x.fr.length cf,.slice ad x.cs.length cd,.string ⟨x.tu.toArray⟩]] w fun e w'=>ak4 w (ac9 fs x) e w':=by
 have HC:Hid _:=fun(W:World)(hb:Bq w W)=>ab5 x af ad cf cd W (hfr.below hb) (hcs.below hb) hfx;have HG:Hid _:=fun(W:World)(hb:Bq w W)=>aY5 ao af cap cf fs x.fr W (hf.below hb) Ad (hfr.below hb);have HD:=qH hcs;have HK:=qH hK;have HX:=qH hfx;obtain⟨N,hN⟩:=qE fs.length;obtain⟨NF,hNF⟩:=qE x.fr.length;obtain⟨ND,hND⟩:=qE x.cs.length;have HND:=qH hND;obtain⟨tx,htx⟩:=qE (⟨x.tu.toArray⟩:ByteArray);obtain⟨ck,hck⟩:=qE (lchk x);have HCK:=qH hck;rw[<- hNF,<- hND,<- htx,<- hck]at HC;rw[<- hN,<- hNF]at HG;rw[<- hND]at HD;rw[<- hN,<- hNF,<- hND,<- htx];clear hf Ad hfr hcs hfx hK hN hNF hND htx hck;go_enter Tryz.func40,Tryz.ntmps40;go_wp2_with fail;have hQ:=HC.out _ (C5 (w:=w) (o:=.cells #[.slice af NF cf,.slice ad ND cd,.string tx] 56));refine qD hQ ?_;rintro e w1⟨rfl,hb1⟩;have HB1:Hid (Bq w w1):=C5.trans (hb1.mono C5.size)
 obtain⟨hx0,hx1,hx2⟩:=aD2 hb1;clear hb1 hQ HC;by_cases h0:ck=0
 .
  subst h0;obtain⟨_,_,Tj,_,_,Eg⟩:=aC2 HCK.out.symm;rw[<- HND.out]at Tj;have HCA:Hid _:=Eg;clear Eg;go_wp2_with fail;have hQ:=HG.out w1 HB1.out;refine qD hQ ?_;rintro e w2⟨ab,cb,rfl,hrb,hb2⟩;have HB2:=qT HB1 hb2;have hy1:=qC hb2 hx1;obtain⟨ge,hge⟩:=qE ((o6 fs x.fr).2);have HGE:=qH hge;obtain⟨gb,hgb⟩:=qE ((o6 fs x.fr).1);have HGB:=qH hgb;have HSM:Hid _:=aU3 fs x.fr;rw[<- hge,<- hgb];rw[<- hgb]at hrb HSM;have HRB:Hid _:=hrb;obtain⟨GN,hGN⟩:=qE gb.length;have HGN:=qH hGN;rw[<- hGN]at HRB ⊢;clear hQ HG hrb hb2 hge hgb hGN hx0 hx1 hx2;by_cases hg0:ge=0
  .
   subst hg0;have HLT:=qH (show ac9 fs x=(M8 x.cs gb,0) by rw[ca5 HCK.out.symm HGE.out.symm,HGB.out]);go_wp2_with fail;go_loopw [7,29] (fun bv i wr=>∃k:Nat,∃bs:List UInt8,∃ac cc nc,k<=ND/\i=.int .i64 k/\bv=.slice ac nc cc/\Hid (nc=bs.length)/\Hid (Reads wr (.slice ac nc cc) nc (bs.map U))/\Hid (bs.length<=4000/\whole bs)/\Hid (bs=M8 (x.cs.take k) gb)/\Hid (Bq w wr)) (fun _ i _=>ND-(intOf i).toNat)
   case atStart=>exact⟨0,gb,ab,cb,GN,qP _,rfl,rfl,HGN,HRB,HSM,(show _=_ from rfl),HB2⟩
   case round=>
    clear HRB HB2 hy1;obtain⟨k,bs,ac,cc,nc,hk,rfl,rfl,HNC,HRD,HSZ,HBS,Aa⟩:=hrel;by_cases hlt:k<ND
    .
     obtain⟨c,hc⟩:∃c,x.cs[k]? = some c:=⟨_,gEl (by have:=HND.out;omega)⟩;obtain⟨bb,off,rfl,hc0,hc1,hc2⟩:=(H9.below HD.out Aa.out).at hc;have hcc:=HCA.out c (mGt hc);have HDO:Hid _:=fun(W:World)(hb:Bq wr W)=>cr8 c (.slice ac nc cc) bs W (HX.out.2.1 c (mGt hc)) hcc (by have h:=HRD.out.below hb;rw[HNC.out]at h ⊢;exact h) HSZ.out.1 ((HK.out.below Aa.out).below hb);have HB3:=qH (show U4 c bs=M8 (x.cs.take (k+1)) gb by rw[aO6 hc,HBS.out])
     have Oy:=qH (show (U4 c bs).length<=4000/\whole (U4 c bs) by
      have:=an2 [c] bs (by simp[hcc]) HSZ.out.2 HSZ.out.1
      exact⟨this.2,this.1⟩)
     obtain⟨ckk,Io⟩:=qE c.kind;obtain⟨cww,Ip⟩:=qE (⟨c.word.toArray⟩:ByteArray);obtain⟨cnn,Iq⟩:=qE c.n;have hcv:c.v=.agg #[.int .i64 ckk,.string cww,.int .i64 cnn]:=by rw[Io,Ip,Iq];rfl
     rw[hcv]at HDO;rw[<- Io]at hc0;rw[<- Ip]at hc1;rw[<- Iq]at hc2;clear hc hcc Io Ip Iq hcv HBS;go_wp2_with fail;have hQ:=HDO.out _ (C5 (w:=wr) (o:=.cells #[.int .i64 ckk,.string cww,.int .i64 cnn] 70));refine qD hQ ?_;rintro e w3⟨r,rfl,Ab,hb3⟩;have Xf:Hid (Bq wr w3):=C5.trans (hb3.mono C5.size);have Tm:Hid (Bq w w3):=Aa.out.trans (Xf.out.mono Aa.out.size);have hrd:=Reads.of_owns Ab;obtain⟨a3,c3,rfl,_,_⟩:=hrd.shape;obtain⟨n3,hn3⟩:=qE ((U4 c bs).length);have HN3:=qH hn3;rw[<- hn3]at hrd ⊢;have HR3:Hid _:=hrd;clear hQ HDO Ab hb3 hrd hn3 HRD HSZ hc0 hc1 hc2 Xf;go_wp2_with fail;go_roundw
     case rel=>exact⟨k+1,_,_,_,_,by omega,by go_num,rfl,HN3,HR3,Oy,HB3,Tm⟩
     case measure=>simp[intOf];omega
    . have HE:=qH (show ac9 fs x=(bs,0) by rw[HLT.out,HBS.out,qO (by have:=HND.out;omega)]);go_wp2_with fail;go_ret2;refine⟨ac,cc,?_,?_,Aa.out⟩
      . rw[HE.out,<- HNC.out];rfl
      . rw[HE.out];have:=HRD.out;rw[HNC.out]at this;exact this
  . have HR:=qH (show ac9 fs x=([],ge) by rw[bP1 HCK.out.symm (by rw[<- HGE.out];exact hg0),<- HGE.out]);go_wp2_with fail;go_ret2;exact P3 HR.out rfl HB2.out
 . have HR:=qH (show ac9 fs x=([],ck) by rw[bP0 (by rw[<- HCK.out];exact h0),<- HCK.out]);clear HG;go_wp2_with fail;go_ret2;exact P3 HR.out rfl HB1.out
theorem bf6:(prog.info? 83).map (·.size)=some 2:=by kernel_rfl
theorem aO7{w:World}{vb:Nat}{r:FRow}(h:w.heap[vb]? = some (.cells #[.string ⟨r.1.name.toArray⟩,.slice r.2.1 r.2.2.1 r.2.2.2] 83 (0,0))):∀j u,(encF r)[j]? = some u->w.cell? ((⟨vb,0,none⟩:Addr).add j)=some u:=by
 intro j u hj;rw[addF];simp only[World.cell?,h]
 match j,hj with
 | 0,hj=>simp[encF]at hj;subst hj;rfl
 | 1,hj=>simp[encF]at hj;subst hj;rfl
theorem bB8(v:Value)(rows:List FRow)(r:FRow)(vb B:Nat)(w:World)(hFO:FO w B 83 v rows)(hn:rows.length<=12)(hB:B<=w.heap.size)(hvb:w.heap[vb]? = some (.cells #[.string ⟨r.1.name.toArray⟩,.slice r.2.1 r.2.2.1 r.2.2.2] 83 (0,0)))(hr:∀(W:World)(go:Option Nat),ac6 W go r):
 Calls prog 158 #[v,.int .i64 rows.length,.slice (some ⟨vb,0,none⟩) 1 1] w fun e w'=>∃v',e=.returned v'/\FO w' B 83 v' (insR rows rows.length r)/\Below B w w':=by
 obtain⟨i0,hi,hi0,hi1,hi2⟩:=info_parts an8;have HFO:Hid _:=hFO;have HBX:Hid _:=aO7 hvb;have HR:Hid _:=hr;obtain⟨ao,cap,rfl,hc1,hc2⟩:=hFO.shape;obtain⟨N,hN⟩:=qE rows.length;have HN:=qH hN;rw[<- hN]at HFO hn hc1 ⊢;unfold maxLen at hc2;obtain⟨xs,hxs⟩:=qE (encF r);have HX:=qH hxs;clear hFO hvb hr hN hxs;by_cases hcn:N=cap
 .
  subst hcn;go_enter Tryz.func158,Tryz.ntmps158;go_wp2_with (at_builtin;refine wpList_append_own_at _ rfl _ _ 25 rfl B 83 i0 (.agg #[.string ⟨#[]⟩,.slice none 0 0]) 2 40 underlying25 hi hi0 hi1 hi2 rfl (by decide) _ N (f8 rows) rfl ?o1 ⟨vb,0,none⟩ 1 1 xs rfl ?c0 ?c1 ?c2 ?c3 ?c4 ?c5 ?_)
  case o1=>have h:=HFO.out.own;rw[<- HN.out]at h;exact h
  case c0=>rw[HX.out];rfl
  case c1=>rw[HX.out];exact HBX.out
  case c2=>rw[HX.out];exact an4 r
  case c3=>unfold maxLen;omega
  case c4=>omega
  case c5=>exact hB
  intro v' w1 Ab hg Dh hat
  have HE:Hid (FO w1 B 83 v' (insR rows N r)):=HFO.out.move (by
   rw[O8 _ _ _ (by rw[<- HN.out];exact qB _),<- HN.out]
   have e:insR rows N r=rows++[r]:=by rw[HN.out];exact bn7 rows r
   rw[e,ak1,<- HX.out]
   exact Ab) (fun k hk hne=>hg.block k hk (fun e=>hne e.symm)) hat (fun x hx=>ay3 hx) HR.out
  have HB:Hid (Below B w w1):=(qI B w).grown hg hB (fun k hk=>(HFO.out.own.lt k hk).1);clear Ab hg Dh hat;go_wp2;go_ret;exact⟨v',rfl,HE.out,HB.out⟩
 .
  have hcn':¬cap=N:=fun e=>hcn e.symm;go_enter Tryz.func158,Tryz.ntmps158;go_wp2_with (at_builtin;refine wpList_append_own_at _ rfl _ _ 25 rfl B 83 i0 (.agg #[.string ⟨#[]⟩,.slice none 0 0]) 2 40 underlying25 hi hi0 hi1 hi2 rfl (by decide) _ N (f8 rows) rfl ?o1 ⟨vb,0,none⟩ 1 1 xs rfl ?c0 ?c1 ?c2 ?c3 ?c4 ?c5 ?_)
  case o1=>have h:=HFO.out.own;rw[<- HN.out]at h;exact h
  case c0=>rw[HX.out];rfl
  case c1=>rw[HX.out];exact HBX.out
  case c2=>rw[HX.out];exact an4 r
  case c3=>unfold maxLen;omega
  case c4=>omega
  case c5=>exact hB
  intro v' w1 Ab hg Dh hat
  have HE:Hid (FO w1 B 83 v' (insR rows N r)):=HFO.out.move (by
   rw[O8 _ _ _ (by rw[<- HN.out];exact qB _),<- HN.out]
   have e:insR rows N r=rows++[r]:=by rw[HN.out];exact bn7 rows r
   rw[e,ak1,<- HX.out]
   exact Ab) (fun k hk hne=>hg.block k hk (fun e=>hne e.symm)) hat (fun x hx=>ay3 hx) HR.out
  have HB:Hid (Below B w w1):=(qI B w).grown hg hB (fun k hk=>(HFO.out.own.lt k hk).1);clear Ab hg Dh hat;go_wp2;go_ret;exact⟨v',rfl,HE.out,HB.out⟩
theorem bf7(g cap:Nat)(rows:List FRow)(i:Nat)(r:FRow)(vb B:Nat)(w:World)(hFO:FO w B 83 (.slice (some ⟨g,0,none⟩) rows.length cap) rows)(hn:rows.length<=12)(hin:i<rows.length)(Bh:rows.length+1<=cap)(hB:B<=w.heap.size)(hne:vb≠g)(hvb:w.heap[vb]? = some (.cells #[.string ⟨r.1.name.toArray⟩,.slice r.2.1 r.2.2.1 r.2.2.2] 83 (0,0)))(hr:∀(W:World)(go:Option Nat),ac6 W go r):
 Calls prog 158 #[.slice (some ⟨g,0,none⟩) rows.length cap,.int .i64 i,.slice (some ⟨vb,0,none⟩) 1 1] w fun e w'=>∃v',e=.returned v'/\FO w' B 83 v' (insR rows i r)/\Below B w w':=by
 obtain⟨hBg,cur,hg,hcm,hcs,Hn⟩:B<=g/\∃cur:Array Value,w.heap[g]? = some (.cells cur 83 (0,0))/\cap<=maxLen/\cur.size=cap*2/\cur.toList.take (rows.length*2)=f8 rows:=by
  rcases hFO.own.2 with⟨h,_⟩|⟨g',cap',cur,h,hb,hg,h1,h2,h3,h4⟩
  . cases h
  . injection h with e1 e2 e3;injection e1 with e1;injection e1 with e1;subst e1 e3;exact⟨hb,cur,hg,h2,h3,h4⟩
 obtain⟨c1,hc1⟩:=qE (cur.toList.take (i*2+2)++f8 (rows.drop i)++cur.toList.drop (i*2+2+(f8 (rows.drop i)).length));obtain⟨hl1,hl2,ht2⟩:=bM9 cur.toList rows i r (by omega) Hn (by rw[xY (xs:=cur),hcs];omega) c1 hc1;obtain⟨c2,hc2⟩:=qE (c1.take (i*2)++encF r++c1.drop (i*2+(encF r).length));rw[<- hc2]at hl2 ht2;have hdl:(f8 (rows.drop i)).length=(rows.length-i)*2:=by rw[o8,qo]
 have Tn:∀ty dc sc,(Builtin.copy_ #[25,25] ty #[.slice (some ⟨g,(i+1)*2,none⟩) (rows.length-i) dc,.slice (some ⟨g,i*2,none⟩) (rows.length+1-i) sc]).run prog w.drew=.ok (goInt ((rows.length-i:Nat):Int)) (w.drew.setRow g c1.toArray):=fun ty dc sc=>by
  have h:=Y8 (P:=prog) w.drew 25 25 ty 83 g (i*2+2) (rows.length-i) dc ⟨g,i*2,none⟩ (rows.length+1-i) sc cur 83 (f8 (rows.drop i)) 2 (rows.length-i) underlying25 bf6 hg (by simp only[Nat.min_def];split <;> omega) hdl
   (fun j v hj=>by
    rw[addF,<- as6 _ _ (by omega),xd]at *
    have hlt:i*2+j<(f8 rows).length:=(gSm hj).1
    rw[o8]at hlt
    have:=hFO.own.cellAt (i*2+j) hlt
    rw[hj]at this
    exact this)
   (by rw[hdl,hcs];omega) (ab3 _)
  rw[<- hc1]at h;rw[show (i+1)*2=i*2+2 by omega];exact h
 have hg1:(w.drew.setRow g c1.toArray).heap[g]? = some (.cells c1.toArray 83 (0,0)):=zV w.drew g cur _ _ _ hg;have To:∀(W:World),W.heap=(w.drew.setRow g c1.toArray).heap->∀ty dc,(Builtin.copy_ #[25,25] ty #[.slice (some ⟨g,i*2,none⟩) (rows.length+1-i) dc,.slice (some ⟨vb,0,none⟩) 1 1]).run prog W=.ok (goInt 1) (W.setRow g c2.toArray):=fun W hW ty dc=>by
  have h:=Y8 (P:=prog) W 25 25 ty 83 g (i*2) (rows.length+1-i) dc ⟨vb,0,none⟩ 1 1 c1.toArray 83 (encF r) 2 1 underlying25 bf6 (by rw[hW];exact hg1) (by simp only[Nat.min_def];split <;> omega) rfl
   (fun j v hj=>aO7 (by rw[hW,setRow_other _ _ _ _ hne];exact hvb) j v hj)
   (by simp[encF];rw[hl1,xY (xs:=cur),hcs];omega) (an4 _)
  rw[show c1.toArray.toList=c1 by simp,<- hc2]at h;exact h
 have hov:∀lb cb,(callFunc 211 #[.slice (some ⟨vb,0,none⟩) 1 1,.slice (some ⟨g,(i+1)*2,none⟩) lb cb]).run prog w=.ok (.value (.bool false)) w:=fun lb cb=>by
  rw[run_callFunc_extern Tryz.func211 (by kernel_rfl) (by kernel_rfl) (by kernel_rfl) (e:=Extern.SlicesOverlaps.overlaps #[25,25] #[4]) (by kernel_rfl),
   Lib.run_overlaps_apart w 25 4 83 underlying25 2 (fun w=>by obtain⟨i0,hi,_,hi1,_⟩:=info_parts an8;simp[Go.sizeOf,typeInfo,hi,hi1]) ⟨vb,0,none⟩ ⟨g,(i+1)*2,none⟩ 1 1 lb cb hne 83 83 2 (cap*2) (by simp[World.shape?,hvb]) (by simp[World.shape?,hg,hcs]) (by omega) (by simp[World.frozen?,hvb]) (by simp[World.frozen?,hvb])]
  rfl
 have HE:=qH (show ∀W':World,W'.heap=((w.drew.setRow g c1.toArray).setRow g c2.toArray).heap->W'.os=w.os->W'.tape=w.tape->W'.output=w.output->FO W' B 83 (.slice (some ⟨g,0,none⟩) (rows.length+1) cap) (insR rows i r)/\Below B w W' from by
  intro W' hW h1 h2 h3
  have hk:∀k,k≠g->W'.heap[k]? = w.heap[k]?:=fun k hk=>by rw[hW,setRow_other _ _ _ _ hk,setRow_other _ _ _ _ hk];rfl
  refine⟨hFO.move (v':=.slice (some ⟨g,0,none⟩) (rows.length+1) cap) ?_ (fun k _ hne=>hk k (fun e=>hne (by rw[e];rfl))) (.inl rfl) (fun x hx=>ay3 hx) hr,⟨h1,h2,h3,by rw[hW];simp,fun k hkB=>hk k (by omega)⟩⟩
  rw[O8 _ _ _ (by omega)]
  refine⟨by rw[o8,O8 _ _ _ (by omega)],.inr ⟨g,cap,c2.toArray,rfl,hBg,?_,Bh,hcm,?_,?_⟩⟩
  . rw[hW];exact zV _ g _ _ _ _ hg1
  . rw[zU,hl2,xY (xs:=cur),hcs]
  . exact ht2)
 obtain⟨N,hN⟩:=qE rows.length;rw[<- hN]at Tn To HE hn hin Bh ⊢;unfold maxLen at hcm;obtain⟨W1,hW1⟩:=qE (w.drew.setRow g c1.toArray);rw[<- hW1]at Tn To HE;have HW1:=qH (show W1.os=w.os/\W1.tape=w.tape/\W1.output=w.output by rw[hW1];exact⟨rfl,rfl,rfl⟩);have mixed:prog.follows Departure.mixedOrders=true:=by kernel_rfl
 have hw1:IntKind.i64.wrap ((i:Int)+1)=(i:Int)+1:=by rw[zZ];omega
 have hb1:(0:Int)<=(i:Int)+1:=by omega
 have hin2:i<=N:=by omega
 have htn:((i:Int)+1).toNat=i+1:=by omega
 have hb2:¬(cap=i+1):=by omega
 have hb3:(i:Int)<=(N:Int)+1:=by omega
 have hb4:¬(cap=i):=by omega
 have hz2:¬((i:Int)=(N:Int)):=by omega
 clear hFO hvb hr hg hcs Hn hc1 hl1 hl2 ht2 hc2 hdl hg1 hN hW1 hBg;go_enter Tryz.func158,Tryz.ntmps158;go_wp2_with (simp only[hov])
 go_region_law_o (refine step_copy_runI rfl _ _ 25 25 rfl _ _ (by simp[Act.eval,Act.put]) (by simp[Act.eval,Act.put]) (Tn _ _ _) ?_)
 go_wp2_with (at_builtin;refine wpList_copy_runI _ rfl _ _ 25 25 rfl _ _ rfl rfl (To _ rfl _ _) ?_)
 go_ret;obtain⟨h1,h2⟩:=HE.out _ rfl HW1.out.1 HW1.out.2.1 HW1.out.2.2;exact⟨_,rfl,h1,h2⟩
theorem bp4(g cap:Nat)(rows:List FRow)(i:Nat)(r:FRow)(vb B:Nat)(w:World)(hFO:FO w B 83 (.slice (some ⟨g,0,none⟩) rows.length cap) rows)(hn:rows.length<=12)(hin:i<rows.length)(Bh:¬rows.length+1<=cap)(hB:B<=w.heap.size)(hvb:w.heap[vb]? = some (.cells #[.string ⟨r.1.name.toArray⟩,.slice r.2.1 r.2.2.1 r.2.2.2] 83 (0,0)))(hr:∀(W:World)(go:Option Nat),ac6 W go r):
 Calls prog 158 #[.slice (some ⟨g,0,none⟩) rows.length cap,.int .i64 i,.slice (some ⟨vb,0,none⟩) 1 1] w fun e w'=>∃v',e=.returned v'/\FO w' B 83 v' (insR rows i r)/\Below B w w':=by
 obtain⟨i0,hi0,hz0,hzs,hzb⟩:=info_parts an8;have hgw:g<w.heap.size:=(hFO.own.lt g rfl).2;have hvw:vb<w.heap.size:=(aSm hvb).1;have hnc:rows.length<=cap:=by
  rcases hFO.own.2 with⟨h,_⟩|⟨g',cap',cur,h,hb,hg,h1,h2,h3,h4⟩
  . cases h
  . injection h with e1 e2 e3;omega
 obtain⟨z,hz⟩:=qE (Value.agg #[.string ⟨#[]⟩,.slice none 0 0]);have hz2:z.cells.size=2:=by rw[hz];rfl
 rw[<- hz]at hz0;have hkk:(rows.length:Int)+1-(i:Int)=((rows.length+1-i:Nat):Int):=by omega
 have hik:i+(rows.length+1-i)=rows.length+1:=by omega
 have htl:(f8 (rows.take i)).length=i*2:=by rw[o8,qL,ql (by omega)]
 have hold:(Builtin.firstCells i0.size i (.slice (some ⟨g,0,none⟩) i cap)).run prog w.drew=.ok (f8 (rows.take i)).toArray w.drew:=by
  rw[hzs]
  exact run_firstCells_some w.drew 2 i ⟨g,0,none⟩ i cap _ htl (fun j v hj=>by
   rw[addF,qa]
   have hlt:=(gSm hj).1
   rw[htl]at hlt
   rw[<- af9,xR,qF hlt]at hj
   have:=hFO.own.cellAt j (by omega)
   rw[hj]at this
   exact this)
 have hrz:∀ty,(Builtin.append_ #[25,3] ty #[.slice (some ⟨g,0,none⟩) i cap,.int .i64 ((rows.length:Int)+1-(i:Int))]).run prog w =
  .ok (.slice (some ⟨w.heap.size,0,none⟩) (rows.length+1) (grownCap w (rows.length+1) cap 83)) (w.drew.alloc (.cells ((f8 (rows.take i)).toArray++Builtin.zeroCells z.cells (rows.length+1-i)++Builtin.zeroCells z.cells (grownCap w (rows.length+1) cap 83 - (rows.length+1))) 83)):=fun ty=>by
  have h:=Lib.run_append_grow_zeros w 25 3 ty 83 i0 z .i64 .i64 underlying25 underlying3 hi0 hz0 (some ⟨g,0,none⟩) i cap (f8 (rows.take i)) hold (rows.length+1-i) (by omega) (by omega) (by omega) (by omega) (by rw[hzb];omega) (by rw[hzb,hik];exact growslice_fits (by omega) (by omega))
  rw[hik]at h
  rw[hkk]
  exact h
 obtain⟨G,hG⟩:=qE (grownCap w (rows.length+1) cap 83);have hGn:rows.length+1<=G:=by rw[hG];exact grownCap_ge w _ _ _
 have hGm:G<=maxLen:=by rw[hG];exact zv w _ _ _ (by unfold maxLen;omega)
 rw[<- hG]at hrz;obtain⟨ROW,Oz⟩:=qE ((f8 (rows.take i)).toArray++Builtin.zeroCells z.cells (rows.length+1-i)++Builtin.zeroCells z.cells (G-(rows.length+1)):Array Value);rw[<- Oz]at hrz;have hRl:ROW.size=G*2:=by rw[Oz,Array.size_append,Array.size_append,zU,size_zeroCells,size_zeroCells,hz2,htl];omega
 have hRt:ROW.toList.take (i*2)=f8 (rows.take i):=by rw[Oz,Array.toList_append,Array.toList_append,qp,<- htl];simp
 obtain⟨c1,hc1⟩:=qE (ROW.toList.take (i*2)++encF r++ROW.toList.drop (i*2+(encF r).length));obtain⟨hl1,hl2,ht2⟩:=bZ8 ROW.toList rows i r (by omega) hRt (by rw[xY (xs:=ROW),hRl];omega) c1 hc1;obtain⟨c2,hc2⟩:=qE (c1.take (i*2+2)++f8 (rows.drop i)++c1.drop (i*2+2+(f8 (rows.drop i)).length));rw[<- hc2]at hl2 ht2;have hdl:(f8 (rows.drop i)).length=(rows.length-i)*2:=by rw[o8,qo]
 have hh1:(w.drew.alloc (.cells ROW 83)).heap[w.heap.size]? = some (.cells ROW 83 (0,0)):=qN w.drew _;have Jj:∀k,k<w.heap.size->(w.drew.alloc (.cells ROW 83)).heap[k]? = w.heap[k]?:=fun k hk=>(C5 (w:=w.drew) (o:=.cells ROW 83)).block k hk;have Pe:∀(W:World),W.heap=(w.drew.alloc (.cells ROW 83)).heap->∀ty dc,(Builtin.copy_ #[25,25] ty #[.slice (some ⟨w.heap.size,i*2,none⟩) (rows.length+1-i) dc,.slice (some ⟨vb,0,none⟩) 1 1]).run prog W=.ok (goInt 1) (W.setRow w.heap.size c1.toArray):=fun W hW ty dc=>by
  have h:=Y8 (P:=prog) W 25 25 ty 83 w.heap.size (i*2) (rows.length+1-i) dc ⟨vb,0,none⟩ 1 1 ROW 83 (encF r) 2 1 underlying25 bf6 (by rw[hW];exact hh1) (by simp only[Nat.min_def];split <;> omega) rfl
   (fun j v hj=>aO7 (by rw[hW,Jj _ hvw];exact hvb) j v hj)
   (by simp[encF];rw[hRl];omega) (an4 _)
  rw[<- hc1]at h;exact h
 have hh2:((w.drew.alloc (.cells ROW 83)).setRow w.heap.size c1.toArray).heap[w.heap.size]? = some (.cells c1.toArray 83 (0,0)):=zV _ _ _ _ _ _ hh1;have Ll:∀(W:World),W.heap=((w.drew.alloc (.cells ROW 83)).setRow w.heap.size c1.toArray).heap->∀ty dc sc,(Builtin.copy_ #[25,25] ty #[.slice (some ⟨w.heap.size,(i+1)*2,none⟩) (rows.length-i) dc,.slice (some ⟨g,i*2,none⟩) (rows.length-i) sc]).run prog W=.ok (goInt ((rows.length-i:Nat):Int)) (W.setRow w.heap.size c2.toArray):=fun W hW ty dc sc=>by
  have h:=Y8 (P:=prog) W 25 25 ty 83 w.heap.size (i*2+2) (rows.length-i) dc ⟨g,i*2,none⟩ (rows.length-i) sc c1.toArray 83 (f8 (rows.drop i)) 2 (rows.length-i) underlying25 bf6 (by rw[hW];exact hh2) (by simp only[Nat.min_def];split <;> omega) hdl
   (fun j v hj=>by
    rw[addF,<- as6 _ _ (by omega),xd]at *
    have hlt:i*2+j<(f8 rows).length:=(gSm hj).1
    rw[o8]at hlt
    have:=hFO.own.cellAt (i*2+j) hlt
    rw[hj]at this
    have hk:W.heap[g]? = w.heap[g]?:=by rw[hW,setRow_other _ _ _ _ (by omega),Jj _ hgw]
    simp only[World.cell?]at this ⊢
    rw[hk];exact this)
   (by rw[hdl];simp;rw[hl1,xY (xs:=ROW),hRl];omega) (ab3 _)
  rw[show c1.toArray.toList=c1 by simp,<- hc2]at h;rw[show (i+1)*2=i*2+2 by omega];exact h
 have HE:=qH (show ∀W':World,W'.heap=(((w.drew.alloc (.cells ROW 83)).setRow w.heap.size c1.toArray).setRow w.heap.size c2.toArray).heap->W'.os=w.os->W'.tape=w.tape->W'.output=w.output->FO W' B 83 (.slice (some ⟨w.heap.size,0,none⟩) (rows.length+1) G) (insR rows i r)/\Below B w W' from by
  intro W' hW h1 h2 h3
  have hk:∀k,k<w.heap.size->W'.heap[k]? = w.heap[k]?:=fun k hk=>by rw[hW,setRow_other _ _ _ _ (by omega),setRow_other _ _ _ _ (by omega)];exact Jj k hk
  refine⟨hFO.move (v':=.slice (some ⟨w.heap.size,0,none⟩) (rows.length+1) G) ?_ (fun k hkl _=>hk k hkl) (.inr rfl) (fun x hx=>ay3 hx) hr,⟨h1,h2,h3,by rw[hW];simp,fun k hkB=>hk k (by omega)⟩⟩
  rw[O8 _ _ _ (by omega)]
  refine⟨by rw[o8,O8 _ _ _ (by omega)],.inr ⟨w.heap.size,G,c2.toArray,rfl,hB,?_,hGn,hGm,?_,?_⟩⟩
  . rw[hW];exact zV _ _ _ _ _ _ hh2
  . rw[zU,hl2,xY (xs:=ROW),hRl]
  . exact ht2)
 obtain⟨W1,hW1⟩:=qE (w.drew.alloc (.cells ROW 83));have HW1:=qH (show W1.os=w.os/\W1.tape=w.tape/\W1.output=w.output by rw[hW1];exact⟨rfl,rfl,rfl⟩);rw[<- hW1]at hrz Pe Ll HE;obtain⟨N,hN⟩:=qE rows.length;rw[<- hN]at hrz Pe Ll HE hn hin Bh hnc hGn ⊢;obtain⟨Q,hQ⟩:=qE w.heap.size;have HQ:=qH hQ;rw[<- hQ]at hrz Pe Ll HE;unfold maxLen at hGm;have hz2':¬((i:Int)=(N:Int)):=by omega
 have hz3:(cap:Int)<(N:Int)+1:=by omega
 have hGi:¬(G=i):=by omega
 have hGim:¬(G=i+1):=by omega
 have hci:¬(cap=i):=by omega
 have mixed:prog.follows Departure.mixedOrders=true:=by kernel_rfl
 have hw1:IntKind.i64.wrap ((i:Int)+1)=(i:Int)+1:=by rw[zZ];omega
 have hb1:(0:Int)<=(i:Int)+1:=by omega
 have hin2:i<=N:=by omega
 have htn:((i:Int)+1).toNat=i+1:=by omega
 have hb3:(i:Int)<=(N:Int):=by omega
 clear hFO hvb hr hold Oz hRl hRt hG hkk hik htl hc1 hl1 hl2 ht2 hc2 hdl hh1 hh2 Jj hz hz0 hN hW1 hQ hz2;go_enter Tryz.func158,Tryz.ntmps158
 go_wp2_with (first
  | (at_builtin;refine Lib.wpList_append_run _ rfl _ _ _ _ rfl _ _ rfl rfl _ _ (hrz _) ?_)
  | (at_builtin;refine wpList_copy_runI _ rfl _ _ 25 25 rfl _ _ rfl rfl (Pe _ rfl _ _) ?_)
  | (at_builtin;refine wpList_copy_runI _ rfl _ _ 25 25 rfl _ _ rfl rfl (Ll _ rfl _ _ _) ?_))
 go_region_law_o (refine step_copy_runI rfl _ _ 25 25 rfl (.slice (some ⟨Q,(i+1)*2,none⟩) (N-i) (G-(i+1))) (.slice (some ⟨g,i*2,none⟩) (N-i) (cap-i)) (by simp[Act.eval,Act.put]) (by simp[Act.eval,Act.put]) (Ll ((W1.setRow Q c1.toArray).drew) rfl 3 (G-(i+1)) (cap-i)) ?_)
 go_wp2;go_ret;refine⟨_,rfl,?_⟩;refine HE.out _ ?_ ?_ ?_ ?_
 . rfl
 . exact HW1.out.1
 . exact HW1.out.2.1
 . exact HW1.out.2.2
theorem bP2(v:Value)(rows:List FRow)(i:Nat)(r:FRow)(vb B:Nat)(w:World)(hFO:FO w B 83 v rows)(hn:rows.length<=12)(hin:i<=rows.length)(hB:B<=w.heap.size)(hne:v.ownBlock≠some vb)(hvb:w.heap[vb]? = some (.cells #[.string ⟨r.1.name.toArray⟩,.slice r.2.1 r.2.2.1 r.2.2.2] 83 (0,0)))(hr:∀(W:World)(go:Option Nat),ac6 W go r):
 Calls prog 158 #[v,.int .i64 i,.slice (some ⟨vb,0,none⟩) 1 1] w fun e w'=>∃v',e=.returned v'/\FO w' B 83 v' (insR rows i r)/\Below B w w':=by
 by_cases he:i=rows.length
 . subst he;exact bB8 v rows r vb B w hFO hn hB hvb hr
 . obtain⟨g,cap,rfl,hBg⟩:=hFO.form (by omega);by_cases Bh:rows.length+1<=cap
   . exact bf7 g cap rows i r vb B w hFO hn (by omega) Bh hB (fun e=>hne (by rw[e];rfl)) hvb hr
   . exact bp4 g cap rows i r vb B w hFO hn (by omega) Bh hB hvb hr
end Go.Proofs.YtllgglolcgdehaaGreatDoor
