/- slices.Insert of one file where there is no room; whatever there is, and more. -/
import Derived.Test.YtllgglolcgdehaaGreatDoorQAb
import Derived.Test.YtllgglolcgdehaaGreatDoorQd00
set_option maxRecDepth 100000
set_option maxHeartbeats 16000000
namespace Go.Proofs.YtllgglolcgdehaaGreatDoor
open Go.RowKit Go.Gs
set_option linter.unusedVariables false
theorem bA1 (g cap:Nat) (rows:List FRow) (i:Nat) (r:FRow) (vb B:Nat) (w:World) (hFO:FO w B 83 (.slice (some ⟨g,0,none⟩) rows.length cap) rows) (hn:rows.length<=12) (hin:i<rows.length) (Ag:¬rows.length+1<=cap) (hB:B<=w.heap.size) (hvb:w.heap[vb]? = some (.cells #[.string ⟨r.1.name.toArray⟩,.slice r.2.1 r.2.2.1 r.2.2.2] 83 (0,0))) (hr:∀(W:World) (go:Option Nat),ag8 W go r) :
 Calls Tryz.prog 158 #[.slice (some ⟨g,0,none⟩) rows.length cap,.int .i64 i,.slice (some ⟨vb,0,none⟩) 1 1] w fun e w'=>∃v',e=.returned v'/\FO w' B 83 v' (insR rows i r)/\Below B w w':=by
 obtain⟨i0,hi0,hz0,hzs,hzb⟩:=info_parts aG1;have hgw:g<w.heap.size:=(hFO.own.lt g rfl).2;have hvw:vb<w.heap.size:=(aSm hvb).1;have hnc:rows.length<=cap:=by
  rcases hFO.own.2 with ⟨h,_⟩ | ⟨g',cap',cur,h,hb,hg,h1,h2,h3,h4⟩
  . cases h
  . injection h with e1 e2 e3;omega
 obtain⟨z,hz⟩:=qE (Value.agg #[.string ⟨#[]⟩,.slice none 0 0]);have hz2:z.cells.size=2:=by rw[hz];rfl
 rw[<- hz] at hz0;have hkk:(rows.length:Int)+1-(i:Int)=((rows.length+1-i:Nat):Int):=by omega
 have hik:i+(rows.length+1-i)=rows.length+1:=by omega
 have htl:(j4 (rows.take i)).length=i*2:=by rw[q9,List.length_take,Nat.min_eq_left (by omega)]
 have hold:(Builtin.firstCells i0.size i (.slice (some ⟨g,0,none⟩) i cap)).run Tryz.prog w.drew=.ok (j4 (rows.take i)).toArray w.drew:=by
  rw[hzs]
  exact run_firstCells_some w.drew 2 i ⟨g,0,none⟩ i cap _ htl (fun j v hj=>by
   rw[addF,Nat.zero_add]
   have hlt:=(gSm hj).1
   rw[htl] at hlt
   rw[<- ak9,List.getElem?_take,if_pos hlt] at hj
   have:=hFO.own.cellAt j (by omega)
   rw[hj] at this
   exact this)
 have hrz:∀ty,(Builtin.append_ #[25,3] ty #[.slice (some ⟨g,0,none⟩) i cap,.int .i64 ((rows.length:Int)+1-(i:Int))]).run Tryz.prog w =
  .ok (.slice (some ⟨w.heap.size,0,none⟩) (rows.length+1) (grownCap w (rows.length+1) cap 83)) (w.drew.alloc (.cells ((j4 (rows.take i)).toArray++Builtin.zeroCells z.cells (rows.length+1-i)++Builtin.zeroCells z.cells (grownCap w (rows.length+1) cap 83 - (rows.length+1))) 83)):=fun ty=>by
  have h:=Lib.run_append_grow_zeros w 25 3 ty 83 i0 z .i64 .i64 Tryz.underlying25 Tryz.underlying3 hi0 hz0 (some ⟨g,0,none⟩) i cap (j4 (rows.take i)) hold (rows.length+1-i) (by omega) (by omega) (by omega) (by omega) (by rw[hzb];omega) (by rw[hzb,hik];exact growslice_fits (by omega) (by omega))
  rw[hik] at h
  rw[hkk]
  exact h
 obtain⟨G,hG⟩:=qE (grownCap w (rows.length+1) cap 83);have hGn:rows.length+1<=G:=by rw[hG];exact grownCap_ge w _ _ _
 have hGm:G<=maxLen:=by rw[hG];exact grownCap_le_maxLen w _ _ _ (by unfold maxLen;omega)
 rw[<- hG] at hrz;obtain⟨ROW,Qz⟩:=qE ((j4 (rows.take i)).toArray++Builtin.zeroCells z.cells (rows.length+1-i)++Builtin.zeroCells z.cells (G-(rows.length+1)):Array Value);rw[<- Qz] at hrz;have hRl:ROW.size=G*2:=by rw[Qz,Array.size_append,Array.size_append,List.size_toArray,size_zeroCells,size_zeroCells,hz2,htl];omega
 have hRt:ROW.toList.take (i*2)=j4 (rows.take i):=by rw[Qz,Array.toList_append,Array.toList_append,List.append_assoc,<- htl];simp
 obtain⟨c1,hc1⟩:=qE (ROW.toList.take (i*2)++encF r++ROW.toList.drop (i*2+(encF r).length));obtain⟨hl1,hl2,ht2⟩:=cl5 ROW.toList rows i r (by omega) hRt (by rw[Array.length_toList (xs:=ROW),hRl];omega) c1 hc1;obtain⟨c2,hc2⟩:=qE (c1.take (i*2+2)++j4 (rows.drop i)++c1.drop (i*2+2+(j4 (rows.drop i)).length));rw[<- hc2] at hl2 ht2;have hdl:(j4 (rows.drop i)).length=(rows.length-i)*2:=by rw[q9,List.length_drop]
 have hh1:(w.drew.alloc (.cells ROW 83)).heap[w.heap.size]? = some (.cells ROW 83 (0,0)):=heap_alloc_new w.drew _;have Jz:∀k,k<w.heap.size->(w.drew.alloc (.cells ROW 83)).heap[k]? = w.heap[k]?:=fun k hk=>(F6 (w:=w.drew) (o:=.cells ROW 83)).block k hk;have Rb:∀(W:World),W.heap=(w.drew.alloc (.cells ROW 83)).heap -> ∀ty dc,(Builtin.copy_ #[25,25] ty #[.slice (some ⟨w.heap.size,i*2,none⟩) (rows.length+1-i) dc,.slice (some ⟨vb,0,none⟩) 1 1]).run Tryz.prog W=.ok (goInt 1) (W.setRow w.heap.size c1.toArray):=fun W hW ty dc=>by
  have h:=ad3 (P:=Tryz.prog) W 25 25 ty 83 w.heap.size (i*2) (rows.length+1-i) dc ⟨vb,0,none⟩ 1 1 ROW 83 (encF r) 2 1 Tryz.underlying25 bm9 (by rw[hW];exact hh1) (by simp only[Nat.min_def];split <;> omega) rfl
   (fun j v hj=>aW7 (by rw[hW,Jz _ hvw];exact hvb) j v hj)
   (by simp[encF];rw[hRl];omega) (ar5 _)
  rw[<- hc1] at h;exact h
 have hh2:((w.drew.alloc (.cells ROW 83)).setRow w.heap.size c1.toArray).heap[w.heap.size]? = some (.cells c1.toArray 83 (0,0)):=setRow_heap _ _ _ _ _ _ hh1;have Ou:∀(W:World),W.heap=((w.drew.alloc (.cells ROW 83)).setRow w.heap.size c1.toArray).heap -> ∀ty dc sc,(Builtin.copy_ #[25,25] ty #[.slice (some ⟨w.heap.size,(i+1)*2,none⟩) (rows.length-i) dc,.slice (some ⟨g,i*2,none⟩) (rows.length-i) sc]).run Tryz.prog W=.ok (goInt ((rows.length-i:Nat):Int)) (W.setRow w.heap.size c2.toArray):=fun W hW ty dc sc=>by
  have h:=ad3 (P:=Tryz.prog) W 25 25 ty 83 w.heap.size (i*2+2) (rows.length-i) dc ⟨g,i*2,none⟩ (rows.length-i) sc c1.toArray 83 (j4 (rows.drop i)) 2 (rows.length-i) Tryz.underlying25 bm9 (by rw[hW];exact hh2) (by simp only[Nat.min_def];split <;> omega) hdl
   (fun j v hj=>by
    rw[addF,<- az8 _ _ (by omega),List.getElem?_drop] at *
    have hlt:i*2+j<(j4 rows).length:=(gSm hj).1
    rw[q9] at hlt
    have:=hFO.own.cellAt (i*2+j) hlt
    rw[hj] at this
    have hk:W.heap[g]? = w.heap[g]?:=by rw[hW,setRow_other _ _ _ _ (by omega),Jz _ hgw]
    simp only[World.cell?] at this ⊢
    rw[hk];exact this)
   (by rw[hdl];simp;rw[hl1,Array.length_toList (xs:=ROW),hRl];omega) (ae8 _)
  rw[show c1.toArray.toList=c1 by simp,<- hc2] at h;rw[show (i+1)*2=i*2+2 by omega];exact h
 have HE:Hid (∀W':World,W'.heap=(((w.drew.alloc (.cells ROW 83)).setRow w.heap.size c1.toArray).setRow w.heap.size c2.toArray).heap->W'.os=w.os->W'.tape=w.tape->W'.output=w.output->FO W' B 83 (.slice (some ⟨w.heap.size,0,none⟩) (rows.length+1) G) (insR rows i r)/\Below B w W'):=(show ∀W':World,_ from by
  intro W' hW h1 h2 h3
  have hk:∀k,k<w.heap.size->W'.heap[k]? = w.heap[k]?:=fun k hk=>by rw[hW,setRow_other _ _ _ _ (by omega),setRow_other _ _ _ _ (by omega)];exact Jz k hk
  refine⟨hFO.move (v':=.slice (some ⟨w.heap.size,0,none⟩) (rows.length+1) G) ?_ (fun k hkl _=>hk k hkl) (.inr rfl) (fun x hx=>aG0 hx) hr,⟨h1,h2,h3,by rw[hW];simp,fun k hkB=>hk k (by omega)⟩⟩
  rw[W7 _ _ _ (by omega)]
  refine⟨by rw[q9,W7 _ _ _ (by omega)],.inr ⟨w.heap.size,G,c2.toArray,rfl,hB,?_,hGn,hGm,?_,?_⟩⟩
  . rw[hW];exact setRow_heap _ _ _ _ _ _ hh2
  . rw[List.size_toArray,hl2,Array.length_toList (xs:=ROW),hRl]
  . exact ht2)
 obtain⟨W1,hW1⟩:=qE (w.drew.alloc (.cells ROW 83));have HW1:Hid (W1.os=w.os/\W1.tape=w.tape/\W1.output=w.output):=(show _/\_/\_ by rw[hW1];exact⟨rfl,rfl,rfl⟩);rw[<- hW1] at hrz Rb Ou HE;obtain⟨N,hN⟩:=qE rows.length;rw[<- hN] at hrz Rb Ou HE hn hin Ag hnc hGn ⊢;obtain⟨Q,hQ⟩:=qE w.heap.size;have HQ:=qH hQ;rw[<- hQ] at hrz Rb Ou HE;unfold maxLen at hGm;have hz2':¬((i:Int)=(N:Int)):=by omega
 have hz3:(cap:Int)<(N:Int)+1:=by omega
 have hGi:¬(G=i):=by omega
 have hGim:¬(G=i+1):=by omega
 have hci:¬(cap=i):=by omega
 have mixed:Tryz.prog.follows Departure.mixedOrders=true:=by kernel_rfl
 have hw1:IntKind.i64.wrap ((i:Int)+1)=(i:Int)+1:=by rw[IntKind.wrap_i64];omega
 have hb1:(0:Int)<=(i:Int)+1:=by omega
 have hin2:i<=N:=by omega
 have htn:((i:Int)+1).toNat=i+1:=by omega
 have hb3:(i:Int)<=(N:Int):=by omega
 clear hFO hvb hr hold Qz hRl hRt hG hkk hik htl hc1 hl1 hl2 ht2 hc2 hdl hh1 hh2 Jz hz hz0 hN hW1 hQ hz2;go_enter Tryz.func158,Tryz.ntmps158
 go_wp2_with (first
  | (at_builtin;refine Lib.wpList_append_run _ rfl _ _ _ _ rfl _ _ rfl rfl _ _ (hrz _) ?_)
  | (at_builtin;refine wpList_copy_runI _ rfl _ _ 25 25 rfl _ _ rfl rfl (Rb _ rfl _ _) ?_)
  | (at_builtin;refine wpList_copy_runI _ rfl _ _ 25 25 rfl _ _ rfl rfl (Ou _ rfl _ _ _) ?_))
 go_region_law_o (refine step_copy_runI rfl _ _ 25 25 rfl (.slice (some ⟨Q,(i+1)*2,none⟩) (N-i) (G-(i+1))) (.slice (some ⟨g,i*2,none⟩) (N-i) (cap-i)) (by simp[Act.eval,Act.put]) (by simp[Act.eval,Act.put]) (Ou ((W1.setRow Q c1.toArray).drew) rfl 3 (G-(i+1)) (cap-i)) ?_)
 go_wp2;go_ret;refine⟨_,rfl,?_⟩;refine HE.out _ ?_ ?_ ?_ ?_
 . rfl
 . exact HW1.out.1
 . exact HW1.out.2.1
 . exact HW1.out.2.2
theorem ca4 (v:Value) (rows:List FRow) (i:Nat) (r:FRow) (vb B:Nat) (w:World) (hFO:FO w B 83 v rows) (hn:rows.length<=12) (hin:i<=rows.length) (hB:B<=w.heap.size) (hne:v.ownBlock≠some vb) (hvb:w.heap[vb]? = some (.cells #[.string ⟨r.1.name.toArray⟩,.slice r.2.1 r.2.2.1 r.2.2.2] 83 (0,0))) (hr:∀(W:World) (go:Option Nat),ag8 W go r) :
 Calls Tryz.prog 158 #[v,.int .i64 i,.slice (some ⟨vb,0,none⟩) 1 1] w fun e w'=>∃v',e=.returned v'/\FO w' B 83 v' (insR rows i r)/\Below B w w':=by
 by_cases he:i=rows.length
 . subst he;exact bJ3 v rows r vb B w hFO hn hB hvb hr
 . obtain⟨g,cap,rfl,hBg⟩:=hFO.form (by omega);by_cases Ag:rows.length+1<=cap
   . exact bn0 g cap rows i r vb B w hFO hn (by omega) Ag hB (fun e=>hne (by rw[e];rfl)) hvb hr
   . exact bA1 g cap rows i r vb B w hFO hn (by omega) Ag hB hvb hr
def putT (fs:List SFile) (n b:List UInt8):List SFile × Int:=if fchk fs=0 then putS fs n b else ([],fchk fs)
theorem cs8 {rows:List FRow} {p:Nat} {r:FRow} (hp:p<=rows.length):(insR rows p r)[p]? = some r:=by unfold insR;rw[List.getElem?_append_right (by rw[List.length_take];omega),List.length_take,Nat.min_eq_left hp,Nat.sub_self];rfl
theorem cl9 {rows:List FRow} {p:Nat} {r r':FRow} (hp:p<=rows.length):((insR rows p r).set p r').map (·.1)=(rows.map (·.1)).take p++r'.1::(rows.map (·.1)).drop p:=by unfold insR;rw[List.set_append_right _ _ (by rw[List.length_take];omega),List.length_take,Nat.min_eq_left hp,Nat.sub_self,List.set_cons_zero];simp[List.map_take,List.map_drop]
theorem bg2 {w w':World} {B:Nat} {ty:TypeId} {res:List SFile × Int} {v:Value} {rows:List FRow} {e:Ending} {fs:List SFile} (h:FO w' B ty v rows) (hm:rows.map (·.1)=fs) (hr:res=(fs,0)) (he:e=.returned (.tuple #[v,.int .i64 0])) (hb:Bq w w'):aw2 w res e w':=by subst hr;have hf:=h.files;rw[hm] at hf;obtain⟨ao,cap,hv,_⟩:=hf.shape;rw[hv] at he hf;exact⟨ao,cap,he,hf,hb⟩
theorem cm0 (ao ab:Option Addr) (cap cb:Nat) (fs:List SFile) (n b:List UInt8) (w:World) (hf:j9 w (.slice ao fs.length cap) fs) (Ad:∀f∈fs,M3 f) (hb:Reads w (.slice ab b.length cb) b.length (b.map U)) (hnl:n.length<=9223372036854775807) :
 Calls Tryz.prog 108 #[.slice ao fs.length cap,.string ⟨n.toArray⟩,.slice ab b.length cb] w fun e w'=>aw2 w (putT fs n b) e w':=by
 have HC:Hid _:=aa9 ao cap fs w hf Ad;have HF:=qH hf;have HBR:=qH hb;have hbl:=am3 hb;obtain⟨N,hN⟩:=qE fs.length;have HN:=qH hN;obtain⟨L,hL⟩:=qE b.length;have HL:=qH hL;obtain⟨iw,hiw⟩:=qE (isWord n);have HIW:=qH hiw;have HW:Hid _:=fun (W:World)=>bw5 n W hnl iw hiw.symm;obtain⟨nx,hnx⟩:=qE (⟨n.toArray⟩:ByteArray);have HNX:=qH hnx;obtain⟨ck,hck⟩:=qE (fchk fs);have HCK:=qH hck;rw[<- hN,<- hck] at HC;rw[<- hnx] at HW;rw[<- hN,<- hnx,<- hL];rw[<- hL] at hbl;clear hf Ad hb hnl hN hnx hck hL hiw;by_cases h0:ck=0
 .
  subst h0;have HPT:Hid (putT fs n b=putS fs n b):=(show _=_ by unfold putT;rw[if_pos HCK.out.symm]);obtain⟨Ff,hri⟩:=I0 HCK.out.symm;have HRI:Hid _:=hri;have HFI:Hid _:=fun (W:World) (hb:Bq w W)=>bl6 ao cap fs n W (HF.out.below hb) hri Ff;have HCL:Hid _:=fun (W:World) (hb:Bq w W)=>bf8 ao cap fs W (HF.out.below hb) Ff (fun f hf=>(J2 hri f hf).2);have HBC:Hid _:=fun (W:World) (hb:Bq w W) (h4:b.length<=100000)=>aI8 ab cb b W (HBR.out.below hb) h4;rw[<- HN.out,<- HNX.out] at HFI;rw[<- HN.out] at HCL;rw[<- HL.out] at HBC;rw[<- HN.out] at Ff;have hpl:=aR8 fs n;obtain⟨p,hp⟩:=qE (K2 fs n);have HP:=qH hp;obtain⟨t,ht⟩:=qE (E3 fs n);have HT:=qH ht;rw[<- hp,<- ht] at HFI;rw[<- hp,<- HN.out] at hpl;clear hri hp ht
  cases iw with
  | false=>
   have HR:Hid (putT fs n b=([],1)):=(show _=_ by rw[HPT.out];exact bY8 HIW.out.symm)
   clear HFI HCL HBC
   go_enter Tryz.func108,Tryz.ntmps108
   go_wp2_with fail
   refine Calls.mono HC.out ?_
   rintro e w1 ⟨rfl,hb1⟩
   have HB1:=qH hb1
   clear hb1 HC
   go_wp2_with fail
   refine Calls.mono (HW.out w1) ?_
   rintro e w2 ⟨rfl,hb2⟩
   have HB2:Hid (Bq w w2):=HB1.out.trans (hb2.mono HB1.out.size)
   clear hb2 HW HB1
   go_wp2_with fail
   go_ret2
   exact J0 HR.out rfl HB2.out
  | true=>
   go_enter Tryz.func108,Tryz.ntmps108
   go_wp2_with fail
   refine Calls.mono HC.out ?_
   rintro e w1 ⟨rfl,hb1⟩
   have HB1:=qH hb1
   clear hb1 HC
   go_wp2_with fail
   refine Calls.mono (HW.out w1) ?_
   rintro e w2 ⟨rfl,hb2⟩
   have HB2:Hid (Bq w w2):=HB1.out.trans (hb2.mono HB1.out.size)
   clear hb2 HW HB1
   go_wp2_with fail
   have hQ:=HFI.out w2 HB2.out
   refine Calls.mono hQ ?_
   rintro e w3 ⟨rfl,hb3⟩
   have HB3:Hid (Bq w w3):=HB2.out.trans (hb3.mono HB2.out.size)
   clear hb3 hQ HFI HB2
   by_cases hl4:4000<L
   . have HR:Hid (putT fs n b=([],2)):=(show _=_ by rw[HPT.out];exact bY9 HIW.out.symm (by have:=HL.out;omega))
     have hq:(4000:Int)<L:=by omega
     clear HCL HBC
     go_wp2_with fail
     go_ret2
     exact J0 HR.out rfl HB3.out
   .
    have hq:¬(4000:Int)<L:=by omega
    cases t with
    | true=>
     obtain⟨f,hfk,hfn⟩:=aw9 HT.out.symm
     have HPF:Hid (putT fs n b=(fs.set p ⟨n,b⟩,0)):=(show _=_ by
      rw[HPT.out,bM7 HIW.out.symm (by have:=HL.out;omega) (by rw[aZ4 b HRI.out HT.out.symm,<- HN.out];omega),aJ4 b HRI.out HT.out.symm,HP.out])
     rw[<- HP.out] at hfk
     have hpN:p<N:=by have:=(gSm hfk).1;rw[HN.out];exact this
     have HFK:=qH hfk
     have HFN:=qH hfn
     clear hfk hfn
     go_wp2_with fail
     have hQ:=HCL.out w3 HB3.out
     refine Calls.mono hQ ?_
     rintro e w4 ⟨v',rows,rfl,hfo,Bf,hb4⟩
     have HB4:Hid (Bq w w4):=HB3.out.trans (hb4.mono HB3.out.size)
     have HLR:rows.length=N:=by rw[HN.out,<- Bf,List.length_map]
     obtain⟨g,cg,hv,hBg⟩:=hfo.form (by omega)
     rw[HLR] at hv
     subst hv
     have HFO:Hid _:=hfo
     have HM:Hid _:=Bf
     have HG:Hid (w.heap.size<=g):=Nat.le_trans HB3.out.size hBg
     clear hfo Bf hb4 hQ HCL HB3 hBg
     go_wp2_with fail
     have hQ:=HBC.out w4 HB4.out (by have:=HL.out;omega)
     refine Calls.mono hQ ?_
     rintro e w5 ⟨ar,cr,rfl,Wq,Bo,hb5⟩
     have HB5:Hid (Bq w w5):=HB4.out.trans (hb5.mono HB4.out.size)
     have Ov:Hid (FO w5 w3.heap.size 83 (.slice (some ⟨g,0,none⟩) N cg) rows):=HFO.out.below hb5
     obtain⟨r,hr⟩:∃r,rows[p]? = some r:=⟨_,gEl (by omega)⟩
     have hrf:r.1=f:=by
      have h1:=HFK.out
      rw[<- HM.out,List.getElem?_map,hr] at h1
      simpa using h1
     obtain⟨hd0,hd1,hdz⟩:=Ov.out.cells2 hr
     have hgl:=(HFO.out.own.lt g rfl).2
     have HGO:Hid (ag8 w5 (some g) (⟨n,b⟩,ar,L,cr)):=⟨HL.out,by show Reads w5 (.slice ar L cr) _ _;rw[HL.out] at Wq ⊢;exact Wq,fun _ a ha he=>by
      have:=Bo a ha
      injection he with he
      omega⟩
     have HFS:Hid _:=Ov.out.set hr (r':=(⟨n,b⟩,ar,L,cr)) (by show n=r.1.name;rw[hrf];exact HFN.out.symm) HGO.out
     have HMS:Hid ((rows.set p (⟨n,b⟩,ar,L,cr)).map (·.1)=fs.set p ⟨n,b⟩):=(show _=_ by rw[List.map_set,HM.out])
     clear hQ Wq Bo hb5 HBC hr hrf hgl hd0 HLR
     go_wp2_with fail
     go_ret2
     exact bg2 HFS.out HMS.out HPF.out rfl (HB5.out.setCell (p:=⟨g,p*2+1,none⟩) HG.out _)
    | false=>
     by_cases Zi:N=12
     . have HR:Hid (putT fs n b=([],2)):=(show _=_ by rw[HPT.out];exact bZ0 HIW.out.symm (by have:=HL.out;omega) (by rw[aN2 b HRI.out HT.out.symm,<- HN.out];omega))
       subst Zi
       clear HCL HBC
       go_wp2_with fail
       go_ret2
       exact J0 HR.out rfl HB3.out
     .
      have hqN:¬(N:Int)=12:=by omega
      have hdd:(decide ((4000:Int)<(L:Int)) || ((N:Int) == 12))=false:=by simp[hq,hqN]
      have HPF:Hid (putT fs n b=(fs.take p++⟨n,b⟩::fs.drop p,0)):=(show _=_ by
       rw[HPT.out,bM7 HIW.out.symm (by have:=HL.out;omega) (by rw[aN2 b HRI.out HT.out.symm,<- HN.out];omega),bm8 b HRI.out HT.out.symm,HP.out])
      go_wp2_with fail
      have hQ:=HCL.out w3 HB3.out
      refine Calls.mono hQ ?_
      rintro e w4 ⟨v',rows,rfl,hfo,Bf,hb4⟩
      have HB4:Hid (Bq w w4):=HB3.out.trans (hb4.mono HB3.out.size)
      have HLR:rows.length=N:=by rw[HN.out,<- Bf,List.length_map]
      obtain⟨av,cv,hv,_,_⟩:=hfo.shape
      rw[HLR] at hv
      subst hv
      have HFO:Hid _:=hfo
      have HM:Hid _:=Bf
      have HS34:Hid (w3.heap.size<=w4.heap.size):=hb4.size
      have HW3:Hid (w.heap.size<=w3.heap.size):=HB3.out.size
      have HIN:Hid _:=fun (W:World) (hFW:FO W w3.heap.size 83 (.slice av N cv) rows)=>ca4 (.slice av N cv) rows p (⟨n,[]⟩,none,0,0) w4.heap.size w3.heap.size W hFW (by omega) (by omega)
      clear hfo Bf hb4 hQ HCL HB3
      go_wp2_with fail
      have Ws:Bq w4 (w4.alloc (.cells #[.string nx,.slice none 0 0] 83)):=F6
      have hQ:=HIN.out _ (HFO.out.below Ws) (by simp;exact Nat.le_succ_of_le HS34.out) (fun e=>by
       have:=(HFO.out.own.lt _ e).2
       omega) (by rw[HNX.out];exact heap_alloc_new w4 _) (bJ0 n)
      refine Calls.mono hQ ?_
      rintro e w5 ⟨v5,rfl,Wt,hb5⟩
      have HB5:Hid (Bq w w5):=(HB4.out.trans (Ws.mono HB4.out.size)).trans (hb5.mono HW3.out)
      have hil:=W7 rows p ((⟨n,[]⟩,none,0,0):FRow) (by omega)
      obtain⟨g,cg,hv,hBg⟩:=Wt.form (by omega)
      rw[hil,HLR] at hv
      subst hv
      have Ov:Hid _:=Wt
      have HG:Hid (w.heap.size<=g):=Nat.le_trans HW3.out hBg
      have HLR':=qH HLR
      clear hQ hb5 Wt Ws HIN HFO hil hBg HLR
      go_wp2_with fail
      have hQ:=HBC.out w5 HB5.out (by have:=HL.out;omega)
      refine Calls.mono hQ ?_
      rintro e w6 ⟨ar,cr,rfl,Lc,Bo,hb6⟩
      have HB6:Hid (Bq w w6):=HB5.out.trans (hb6.mono HB5.out.size)
      have HFO6:Hid (FO w6 w3.heap.size 83 (.slice (some ⟨g,0,none⟩) (N+1) cg) (insR rows p (⟨n,[]⟩,none,0,0))):=Ov.out.below hb6
      have hr:=cs8 (rows:=rows) (p:=p) (r:=(⟨n,[]⟩,none,0,0)) (by have:=HLR'.out;omega)
      obtain⟨hd0,hd1,hdz⟩:=HFO6.out.cells2 hr
      have hgl:=(Ov.out.own.lt g rfl).2
      have HGO:Hid (ag8 w6 (some g) (⟨n,b⟩,ar,L,cr)):=⟨HL.out,by show Reads w6 (.slice ar L cr) _ _;rw[HL.out] at Lc ⊢;exact Lc,fun _ a ha he=>by
       have:=Bo a ha
       injection he with he
       omega⟩
      have HFS:Hid _:=HFO6.out.set hr (r':=(⟨n,b⟩,ar,L,cr)) rfl HGO.out
      have HMS:Hid (((insR rows p (⟨n,[]⟩,none,0,0)).set p (⟨n,b⟩,ar,L,cr)).map (·.1)=fs.take p++⟨n,b⟩::fs.drop p):=(show _=_ by rw[cl9 (by have:=HLR'.out;omega),HM.out])
      clear hQ Lc Bo hb6 HBC hr hgl hd0
      go_wp2_with fail
      go_ret2
      exact bg2 HFS.out HMS.out HPF.out rfl (HB6.out.setCell (p:=⟨g,p*2+1,none⟩) HG.out _)
 . have HR:Hid (putT fs n b=([],ck)):=(show _=_ by unfold putT;rw[<- HCK.out,if_neg h0]);clear HW;go_enter Tryz.func108,Tryz.ntmps108;go_wp2_with fail;refine Calls.mono HC.out ?_;rintro e w1 ⟨rfl,hb1⟩;have HB1:=qH hb1;clear hb1 HC;go_wp2_with fail;go_ret2;exact J0 HR.out rfl HB1.out
theorem bJ7 {fs:List SFile} {ls:List SLine} (h:fchk fs≠0):runS fs ls=([],fchk fs):=by unfold runS;rw[if_neg h]
theorem cm1 {fs:List SFile} {ls:List SLine} (h:fchk fs=0) (h2:schk ls≠0):runS fs ls=([],schk ls):=by unfold runS;rw[if_pos h,if_neg h2]
theorem cs9 {fs:List SFile} {ls:List SLine} (h:fchk fs=0) (h2:schk ls=0):runS fs ls=runL fs ls:=by unfold runS;rw[if_pos h,if_pos h2]
theorem drop_at {α:Type} {ls:List α} {k:Nat} {x:α} (h:ls[k]? = some x):ls.drop k=x::ls.drop (k+1):=by obtain⟨hk,e⟩:=gSm h;rw[<- e,<- List.drop_eq_getElem_cons hk]
theorem aG3 {fs:List SFile} {x:SLine} (h:lchk x=0) (h2:fchk fs=0):Y6 fs x=A3 fs x:=by unfold Y6;rw[if_pos h,if_pos h2]
theorem bg3 {fs:List SFile} {n b:List UInt8} (h:fchk fs=0):putT fs n b=putS fs n b:=by unfold putT;rw[if_pos h]
theorem ca5 {fs:List SFile} {x:SLine} {r:List SLine} (h:(A3 fs x).2≠0):runL fs (x::r)=([],(A3 fs x).2):=by rw[runL,if_neg h]
theorem cm2 {fs:List SFile} {x:SLine} {r:List SLine} (h:(A3 fs x).2=0) (h2:(putS fs x.tu (A3 fs x).1).2≠0):runL fs (x::r)=([],(putS fs x.tu (A3 fs x).1).2):=by rw[runL,if_pos h,if_neg h2]
theorem ct0 {fs:List SFile} {x:SLine} {r:List SLine} (h:(A3 fs x).2=0) (h2:(putS fs x.tu (A3 fs x).1).2=0):runL fs (x::r)=runL (putS fs x.tu (A3 fs x).1).1 r:=by rw[runL,if_pos h,if_pos h2]
theorem cm3 (ao al:Option Addr) (cap cl:Nat) (fs:List SFile) (ls:List SLine) (w:World) (hf:j9 w (.slice ao fs.length cap) fs) (Ad:∀f∈fs,M3 f) (hl:S1 w (.slice al ls.length cl) ls) (hfl:∀x∈ls,Y5 x) (hK:aa6 w) :
 Calls Tryz.prog 53 #[.slice ao fs.length cap,.slice al ls.length cl] w fun e w'=>aw2 w (runS fs ls) e w':=by
 have HC:Hid _:=aa9 ao cap fs w hf Ad;have HF:=qH hf;have HSC:Hid _:=fun (W:World) (hb:Bq w W)=>bf9 al cl ls W (hl.below hb) hfl;have HL:=qH hl;have HFL:Hid _:=hfl;have HK:=qH hK;have hle:=bg0 hl;obtain⟨N,hN⟩:=qE fs.length;have HN:=qH hN;obtain⟨M,hM⟩:=qE ls.length;have HM:=qH hM;obtain⟨ck,hck⟩:=qE (fchk fs);have HCK:=qH hck;obtain⟨sk,hsk⟩:=qE (schk ls);have HSK:=qH hsk;rw[<- hN,<- hck] at HC;rw[<- hM,<- hsk] at HSC;rw[<- hM] at HL hle;rw[<- hN,<- hM];clear hf Ad hl hfl hK hN hM hck hsk;by_cases h0:ck=0
 .
  subst h0;by_cases h1:sk=0
  .
   subst h1;obtain⟨Ff,hri⟩:=I0 HCK.out.symm;obtain⟨hm6,Ae⟩:=aJ3 HSK.out.symm;rw[<- HM.out] at hm6;have HALL:Hid _:=Ae;have HCL:Hid _:=fun (W:World) (hb:Bq w W)=>bf8 ao cap fs W (HF.out.below hb) Ff (fun f hf=>(J2 hri f hf).2);rw[<- HN.out] at HCL;have HRS:Hid (runS fs ls=runL fs ls):=cs9 HCK.out.symm HSK.out.symm;clear Ff hri Ae;go_enter Tryz.func53,Tryz.ntmps53;go_wp2_with fail;refine Calls.mono HC.out ?_;rintro e w1 ⟨rfl,hb1⟩;have HB1:=qH hb1;clear hb1 HC;go_wp2_with fail;have hQ:=HSC.out w1 HB1.out;refine Calls.mono hQ ?_;rintro e w2 ⟨rfl,hb2⟩;have HB2:Hid (Bq w w2):=HB1.out.trans (hb2.mono HB1.out.size);clear hb2 hQ HSC HB1;go_wp2_with fail;have hQ:=HCL.out w2 HB2.out;refine Calls.mono hQ ?_;rintro e w3 ⟨v',rows,rfl,hfo,Bf,hb3⟩;have HB3:Hid (Bq w w3):=HB2.out.trans (hb3.mono HB2.out.size);have hff:=hfo.files;rw[Bf] at hff
   obtain⟨a3,c3,rfl,_,_⟩:=hff.shape;have HF3:Hid _:=hff;clear hb3 hQ HCL HB2 hfo Bf hff;go_wp2_with fail;go_loopw [8,27] (fun fv i wr=>∃k:Nat,∃cur:List SFile,∃ac cc nc,k<=M/\i=.int .i64 k/\fv=.slice ac nc cc/\Hid (nc=cur.length)/\Hid (j9 wr (.slice ac nc cc) cur)/\Hid (fchk cur=0)/\Hid (runL fs ls=runL cur (ls.drop k))/\Hid (Bq w wr)) (fun _ i _=>M-(intOf i).toNat)
   case atStart=>exact⟨0,fs,a3,c3,_,Nat.zero_le _,rfl,rfl,(show _=_ from rfl),HF3,HCK.out.symm,(show _=_ from rfl),HB3⟩
   case round=>
    clear HF3 HB3;obtain⟨k,cur,ac,cc,nc,hk,rfl,rfl,HNC,HRF,HRI,HRL,Aa⟩:=hrel;by_cases hlt:k<M
    .
     obtain⟨x,hx⟩:∃x,ls[k]? = some x:=⟨_,gEl (by have:=HM.out;omega)⟩;obtain⟨b,off,af,cf,ad,cd,rfl,hc0,hc1,hc2,hr,hd⟩:=(S1.below HL.out Aa.out).at hx;have hlx:=HALL.out x (mGt hx);have hfx:=HFL.out x (mGt hx);have HLI:Hid _:=fun (W:World) (hb:Bq wr W)=>bM6 x ac af ad cc cf cd cur W (by rw[<- HNC.out];exact HRF.out.below hb) (right_fits HRI.out) (hr.below hb) (hd.below hb) hfx ((HK.out.below Aa.out).below hb);rw[<- HNC.out,aG3 hlx HRI.out] at HLI;have HPU:Hid _:=fun (W:World) (hb:Bq wr W) (ab:Option Addr) (cb:Nat) (hrb:Reads W (.slice ab (A3 cur x).1.length cb) (A3 cur x).1.length ((A3 cur x).1.map U))=>cm0 ac ab cc cb cur x.tu (A3 cur x).1 W (by rw[<- HNC.out];exact HRF.out.below hb) (right_fits HRI.out) hrb hfx.2.2;rw[<- HNC.out,bg3 HRI.out] at HPU;have HDR:Hid (ls.drop k=x::ls.drop (k+1)):=drop_at hx;obtain⟨le,Kz⟩:=qE ((A3 cur x).2)
     have HLE:=qH Kz;generalize (⟨x.tu.toArray⟩:ByteArray)=tx at *;generalize x.fr.length=NF at *;generalize x.cs.length=ND at *;clear hx hr hd hlx hfx Kz;go_wp2_with fail;have hQ:=HLI.out _ (F6 (w:=wr) (o:=.cells #[.slice af NF cf,.slice ad ND cd,.string tx] 56));refine Calls.mono hQ ?_;rintro e w4 ⟨ab,cb,rfl,hrb,hb4⟩;have Ib:Hid (Bq wr w4):=F6.trans (hb4.mono F6.size);have HB4:Hid (Bq w w4):=Aa.out.trans (Ib.out.mono Aa.out.size);have hx3:=be3 hb4;have HRB:Hid _:=hrb;rw[<- HLE.out];by_cases Ox:le=0
     . subst Ox;obtain⟨pe,hpe⟩:=qE ((putS cur x.tu (A3 cur x).1).2);have HPE:=qH hpe;obtain⟨PN,hPN⟩:=qE ((A3 cur x).1.length);have hP:=HPU.out w4 Ib.out ab cb HRB.out;rw[<- hPN] at hP ⊢;have HP:Hid _:=hP;clear hb4 hQ HLI hrb hP HPU hPN hpe HRB hc0 hc1 hc2;go_wp2_with fail;refine Calls.mono HP.out ?_;rintro e w5 ⟨ar,cr,rfl,Jo,hb5⟩;have HB5:Hid (Bq w w5):=HB4.out.trans (hb5.mono HB4.out.size);have HR5:=qH Jo;rw[<- HPE.out];by_cases Oy:pe=0
       . subst Oy;have Wu:Hid (runL fs ls=runL (putS cur x.tu (A3 cur x).1).1 (ls.drop (k+1))):=(show _=_ by rw[HRL.out,HDR.out,ct0 HLE.out.symm HPE.out.symm]);have Wv:Hid (fchk (putS cur x.tu (A3 cur x).1).1=0):=aB6 HRI.out HPE.out.symm;obtain⟨QN,hQN⟩:=qE ((putS cur x.tu (A3 cur x).1).1.length);have HQN:=qH hQN;rw[<- hQN] at HR5 ⊢;clear hb5 HP Jo hQN hx3;go_wp2_with fail;go_roundw
         case rel=>exact⟨k+1,_,_,_,_,by omega,by go_num,rfl,HQN,HR5,Wv,Wu,HB5⟩
         case measure=>simp[intOf];omega
       . have HR:Hid (runS fs ls=([],pe)):=(show _=_ by rw[HRS.out,HRL.out,HDR.out,cm2 HLE.out.symm (by rw[<- HPE.out];exact Oy),<- HPE.out]);generalize (putS cur x.tu (A3 cur x).1).1.length=QN at *;clear hb5 HP Jo hx3 HR5;go_wp2_with fail;go_ret2;exact J0 HR.out rfl HB5.out
     . have HR:Hid (runS fs ls=([],le)):=(show _=_ by rw[HRS.out,HRL.out,HDR.out,ca5 (by rw[<- HLE.out];exact Ox),<- HLE.out]);generalize (A3 cur x).1.length=PN at *;clear hb4 hQ HLI hrb HPU HRB hc0 hc1 hc2;go_wp2_with fail;go_ret2;exact J0 HR.out rfl HB4.out
    . have HR:Hid (runS fs ls=(cur,0)):=(show _=_ by rw[HRS.out,HRL.out,List.drop_of_length_le (by have:=HM.out;omega)];rfl);go_wp2_with fail;go_ret2;refine⟨ac,cc,?_,?_,Aa.out⟩
      . rw[HR.out,<- HNC.out];rfl
      . rw[HR.out];have:=HRF.out;rw[HNC.out] at this;exact this
  . have HR:Hid (runS fs ls=([],sk)):=(show _=_ by rw[cm1 HCK.out.symm (by rw[<- HSK.out];exact h1),<- HSK.out]);go_enter Tryz.func53,Tryz.ntmps53;go_wp2_with fail;refine Calls.mono HC.out ?_;rintro e w1 ⟨rfl,hb1⟩;have HB1:=qH hb1;clear hb1 HC;go_wp2_with fail;have hQ:=HSC.out w1 HB1.out;refine Calls.mono hQ ?_;rintro e w2 ⟨rfl,hb2⟩;have HB2:Hid (Bq w w2):=HB1.out.trans (hb2.mono HB1.out.size);clear hb2 hQ HSC HB1;go_wp2_with fail;go_ret2;exact J0 HR.out rfl HB2.out
 . have HR:Hid (runS fs ls=([],ck)):=(show _=_ by rw[bJ7 (by rw[<- HCK.out];exact h0),<- HCK.out]);clear HSC;go_enter Tryz.func53,Tryz.ntmps53;go_wp2_with fail;refine Calls.mono HC.out ?_;rintro e w1 ⟨rfl,hb1⟩;have HB1:=qH hb1;clear hb1 HC;go_wp2_with fail;go_ret2;exact J0 HR.out rfl HB1.out
def F2 (W room:Int) (n:Nat) (fs:List SFile) (l:SLine):List UInt8 × Int:=
 if (o4 l W).2≠0 then ([],(o4 l W).2) else if (C5 fs l.fr).2≠0 then ([],(C5 fs l.fr).2) else if room<1\/1000<room then ([],3) else if 40000<n then ([],2) else ((A3 fs l).1,0)
def ae4 (W room:Int) (n:Nat):List SFile->List SLine->List SFile × Int
 | l,[]=>(l,0)
 | l,x::r=>if (F2 W room n l x).2=0 then (if (putS l x.tu (F2 W room n l x).1).2=0 then ae4 W room n (putS l x.tu (F2 W room n l x).1).1 r else ([],(putS l x.tu (F2 W room n l x).1).2)) else ([],(F2 W room n l x).2)
def ai2 (W room:Int) (n:Nat) (l:List SFile) (s:List SLine):List SFile × Int:=if fchk l=0 then (if schk s=0 then ae4 W room n l s else ([],schk s)) else ([],fchk l)
theorem aB8 {fs:List SFile} {fr:List (List UInt8)} (h:(C5 fs fr).2=0):fchk fs=0/\(gather fs fr).2=0:=by
 unfold C5 at h;split at h
 . rename_i h0;exact⟨h0,h⟩
 . rename_i h0;exact absurd h h0
theorem bJ8 {fs:List SFile} {l:SLine} {W:Int} (h1:(o4 l W).2=0) (h2:(C5 fs l.fr).2=0):sunk (o4 l W).1 fs=(A3 fs l).1:=by
 have hp:lchk l=0 /\ ¬(W<1\/5<W):=by
  unfold o4 at h1;split at h1
  . rename_i h;exact absurd h1 h
  . split at h1
    . cases h1
    . rename_i h3 h4;exact⟨by simpa using h3,h4⟩
 obtain⟨hf,hg⟩:=aB8 h2;rw[av8 hp.1 hp.2];have hw:1<=W.toNat/\W.toNat<=5:=by omega
 exact (bZ3 hw hp.1 hg).1
theorem aB9 {fs:List SFile} {l:SLine} {W room:Int} {n:Nat} (hW:1<=W/\W<=5) (hr:1<=room/\room<=1000) (hn:n<=40000):F2 W room n fs l=Y6 fs l:=by
 unfold F2 Y6;by_cases h1:lchk l=0
 .
  rw[av8 h1 (by omega),if_neg (by simp),if_pos h1];unfold C5;by_cases h2:fchk fs=0
  . rw[if_pos h2,if_pos h2];by_cases h3:(gather fs l.fr).2=0
    . rw[if_neg (by simpa using h3),if_neg (by omega),if_neg (by omega)];unfold A3;rw[if_pos h3]
    . rw[if_pos h3];unfold A3;rw[if_neg h3]
  . rw[if_neg h2,if_neg h2,if_pos h2]
 . rw[be8 h1,if_pos h1,if_neg h1]
theorem bA2 {W room:Int} {n:Nat} (hW:1<=W/\W<=5) (hr:1<=room/\room<=1000) (hn:n<=40000):∀(s:List SLine) (l:List SFile),fchk l=0->(∀x∈s,lchk x=0)->ae4 W room n l s=runL l s
 | [],l,hl,hs=>rfl
 | x::r,l,hl,hs=>by
  have e:F2 W room n l x=A3 l x:=by rw[aB9 hW hr hn,aG3 (hs x (by simp)) hl]
  rw[ae4,runL,e]
  split
  . split
    . rename_i h1 h2
      exact bA2 hW hr hn r _ (aB6 hl h2) (fun y hy=>hs y (by simp[hy]))
    . rfl
  . rfl
theorem aX0 {W room:Int} {n:Nat} (hW:1<=W/\W<=5) (hr:1<=room/\room<=1000) (hn:n<=40000) (l:List SFile) (s:List SLine):ai2 W room n l s=runS l s:=by
 unfold ai2 runS;split
 .
  rename_i hl;split
  . rename_i hs;exact bA2 hW hr hn s l hl (aJ3 hs).2
  . rfl
 . rfl
theorem bJ9 {W room:Int} {n:Nat} {fs:List SFile} {x:SLine} {r:List SLine} (h:(F2 W room n fs x).2≠0):ae4 W room n fs (x::r)=([],(F2 W room n fs x).2):=by rw[ae4,if_neg h]
theorem ca6 {W room:Int} {n:Nat} {fs:List SFile} {x:SLine} {r:List SLine} (h:(F2 W room n fs x).2=0) (h2:(putS fs x.tu (F2 W room n fs x).1).2≠0):ae4 W room n fs (x::r)=([],(putS fs x.tu (F2 W room n fs x).1).2):=by rw[ae4,if_pos h,if_neg h2]
theorem cm4 {W room:Int} {n:Nat} {fs:List SFile} {x:SLine} {r:List SLine} (h:(F2 W room n fs x).2=0) (h2:(putS fs x.tu (F2 W room n fs x).1).2=0):ae4 W room n fs (x::r)=ae4 W room n (putS fs x.tu (F2 W room n fs x).1).1 r:=by rw[ae4,if_pos h,if_pos h2]
theorem aj9 {w w':World} {res:List UInt8 × Int} {e:Ending} {r:Int} (h:res=([],r)) (he:e=.returned (.tuple #[.slice none 0 0,.int .i64 r])) (hb:Bq w w'):ah7 w res e w':=by subst h;exact⟨none,0,he,rnil,hb⟩
theorem aX1 {w w':World} {x y z:Value} (hb:Below (w.alloc (.cells #[x,y,z] 56)).heap.size (w.alloc (.cells #[x,y,z] 56)) w'):w'.cell? ⟨w.heap.size,0,none⟩=some x/\w'.cell? ⟨w.heap.size,1,none⟩=some y/\w'.cell? ⟨w.heap.size,2,none⟩=some z:=by
 refine⟨?_,?_,?_⟩
 all_goals
  rw[hb.cell (by simp),cell_of_row _ _ _ _ _ _ (heap_alloc_new w _)]
  rfl
theorem ca7 {ns:List SNode} {fs:List SFile} {room:Int} (hg:gchk ns=0) (hf:fchk fs=0) (hb:T0 ns fs) (hr:1<=room) {M:SMach} (h:Go.Gs.Reach ns fs room M) (pk:List Int):∃k r,Fins k (l9 M pk).1 (r,0)/\overS r=true/\Go.Gs.Reach ns fs room r/\r.sunk=sunk ns fs:=
 ax9 hg hf hb hr (h.picks (D7 hg) pk M)
theorem aX2 (l:SLine) (W room:Int) (fs:List SFile) (pk:List Int) (af ad ao aq:Option Addr) (cf cd cap cq:Nat) (w:World) (hf:Reads w (.slice af l.fr.length cf) l.fr.length (l.fr.map S)) (hd:P6 w (.slice ad l.cs.length cd) l.cs) (Ad:Y5 l) (hfs:j9 w (.slice ao fs.length cap) fs) (hff:∀f∈fs,M3 f) (hq:Reads w (.slice aq pk.length cq) pk.length (Zs pk)) (hE:t8 w) :
 Calls Tryz.prog 42 #[.slice ao fs.length cap,.agg #[.slice af l.fr.length cf,.slice ad l.cs.length cd,.string ⟨l.tu.toArray⟩],.int .i64 W,.int .i64 room,.slice aq pk.length cq] w fun e w'=>ah7 w (F2 W room pk.length fs l) e w':=by
 have HP:Hid (∀V,Bq w V->Calls Tryz.prog 28 #[.agg #[.slice af l.fr.length cf,.slice ad l.cs.length cd,.string ⟨l.tu.toArray⟩],.int .i64 W] V fun e w'=>ax6 V (o4 l W) e w'):=(show ∀V,_ from fun V hb=>bm5 l W af ad cf cd V (hf.below hb) (hd.below hb) Ad);have HGA:Hid (∀V,Bq w V->Calls Tryz.prog 104 #[.slice ao fs.length cap,.slice af l.fr.length cf] V fun e w'=>ah7 V (C5 fs l.fr) e w'):=(show ∀V,_ from fun V hb=>bf4 ao af cap cf fs l.fr V (hfs.below hb) hff (hf.below hb));have hfn:∀n∈(o4 l W).1,M4 n:=by
  unfold o4;split
  . intro n hn;cases hn
  . split
    . intro n hn;cases hn
    . rename_i h1 h2;intro n hn;exact Go.Gs.right_fits (aa1 (by omega) (by simpa using h1)) hn
 have HNW:Hid (∀(V:World) (an:Option Addr) (cn:Nat),Bq w V->A2 V (.slice an (o4 l W).1.length cn) (o4 l W).1->Calls Tryz.prog 15 #[.agg #[.slice an (o4 l W).1.length cn],.slice ao fs.length cap,.int .i64 room] V fun e w'=>∃v,e=.returned (.tuple #[v,.int .i64 (newS (o4 l W).1 fs room).2])/\K8 w' v (newS (o4 l W).1 fs room).1/\Bq V w'):=(show ∀(V:World) (an:Option Addr) (cn:Nat),_ from fun V an cn hb hr=>aF4 an ao cn cap (o4 l W).1 fs room V hr (hfs.below hb) hfn hff)
 have Ak:Hid (∀(V:World) (an af ax ap aS:Option Addr) (cn cf cx cp cs:Nat) (M:SMach),Bq w V->RMach V an af ax ap aS cn cf cx cp cs M->FitsM M->mchk M=0 -> ∀I:SMach->Prop,InvM M.ns M.fs I->I M->Calls Tryz.prog 24 #[machV an af ax ap aS M cn cf cx cp cs,.slice aq pk.length cq] V fun e w'=>∃v s,e=.returned (.tuple #[v,s,.int .i64 (runR M pk).2.2])/\J4 V.heap.size w' v (runR M pk).1/\Reads w' s (runR M pk).2.1.length (Zs (runR M pk).2.1)/\Bq V w'):=(show ∀(V:World) (an af ax ap aS:Option Addr) (cn cf cx cp cs:Nat) (M:SMach),_ from fun V an af ax ap aS cn cf cx cp cs M hb hM hfm h0 I hI hIM=>aO9 an af ax ap aS aq cn cf cx cp cs cq M pk V hM (hq.below hb) hfm (fun V' hV'=>hE.below (hb.trans (hV'.mono hb.size))) I (fun _=>hI) (fun _=>hIM))
 have Cb:Hid (∀(V:World) (an af ax ap aS:Option Addr) (cn cf cx cp cs:Nat) (M:SMach),Bq w V->RMach V an af ax ap aS cn cf cx cp cs M->FitsM M->mchk M=0 -> ∀I:SMach->Prop,InvM M.ns M.fs I->I M -> ∀k r,Fins k M (r,0)->Calls Tryz.prog 25 #[machV an af ax ap aS M cn cf cx cp cs] V fun e w'=>∃v,e=.returned (.tuple #[v,.int .i64 0])/\J4 V.heap.size w' v r/\Bq V w'):=(show ∀(V:World) (an af ax ap aS:Option Addr) (cn cf cx cp cs:Nat) (M:SMach),_ from fun V an af ax ap aS cn cf cx cp cs M hb hM hfm h0 I hI hIM k r hk=>by
  have:=ap9 an af ax ap aS cn cf cx cp cs M V hM hfm (fun V' hV'=>hE.below (hb.trans (hV'.mono hb.size))) I (fun _=>hI) (fun _=>hIM) k (r,0) (fun _=>hk)
  rw[show finR M (r,0)=(r,0) from by unfold finR;rw[if_neg (by simp[h0])]] at this
  exact this)
 have HD:Hid (F2 W room pk.length fs l=if (o4 l W).2≠0 then ([],(o4 l W).2) else if (C5 fs l.fr).2≠0 then ([],(C5 fs l.fr).2) else if room<1\/1000<room then ([],3) else if 40000<pk.length then ([],2) else ((A3 fs l).1,0)):=(show _=_ from rfl)
 have HOK:Hid ((o4 l W).2=0->(C5 fs l.fr).2=0 -> ¬(room<1\/1000<room)->newS (o4 l W).1 fs room=(o7 (o4 l W).1 fs room,0) /\ ∃I:SMach->Prop,InvM (o4 l W).1 fs I/\I (o7 (o4 l W).1 fs room)/\(∀M,I M->FitsM M/\mchk M=0/\M.ns=(o4 l W).1/\M.fs=fs) /\ ∃k r,Fins k (l9 (o7 (o4 l W).1 fs room) pk).1 (r,0)/\r.sunk=(A3 fs l).1):=(show _->_->_->_ from fun h1 h2 h3=>by
  obtain⟨g1,g2⟩:=aB8 h2
  have hnw:(newS (o4 l W).1 fs room).2=0:=by
   have hg:gchk (o4 l W).1=0:=by
    unfold o4 at h1 ⊢
    split
    . rename_i h;rw[if_pos h] at h1;exact absurd h1 h
    . rename_i h
      rw[if_neg h] at h1
      split
      . rename_i h';rw[if_pos h'] at h1;cases h1
      . exact aa1 (by omega) (by simpa using h)
   unfold newS
   rw[if_neg (by simp[hg]),if_neg (by simp[g1]),if_neg h3]
  obtain⟨hg,hfc,hbd,hr1,hr2,hnw2,hre,_,_,_⟩:=bJ2 h1 hnw
  obtain⟨k,r,hk,ho,hr,hs⟩:=ca7 hg hfc hbd hr1 hre pk
  exact⟨hnw2,Go.Gs.Reach (o4 l W).1 fs room,ac8 hg hfc hbd,hre,fun M hM=>⟨U0 hg hfc hfn hff hM,hM.chk hg hfc hbd,(J6 hM).1,(J6 hM).2⟩,k,r,hk,by rw[hs,bJ8 h1 h2]⟩)
 have HN3:Hid ((o4 l W).2=0->(C5 fs l.fr).2=0->(room<1\/1000<room)->(newS (o4 l W).1 fs room).2=3):=(show _->_->_->_ from fun h1 h2 h3=>by
  obtain⟨g1,g2⟩:=aB8 h2
  have hg:gchk (o4 l W).1=0:=by
   unfold o4 at h1 ⊢
   split
   . rename_i h;rw[if_pos h] at h1;exact absurd h1 h
   . rename_i h
     rw[if_neg h] at h1
     split
     . rename_i h';rw[if_pos h'] at h1;cases h1
     . exact aa1 (by omega) (by simpa using h)
  unfold newS
  rw[if_neg (by simp[hg]),if_neg (by simp[g1]),if_pos h3])
 obtain⟨pe,hpe⟩:=qE ((o4 l W).2);obtain⟨ge,hge⟩:=qE ((C5 fs l.fr).2);obtain⟨RES,Af⟩:=qE (F2 W room pk.length fs l);rw[<- Af] at HD ⊢;rw[<- hpe,<- hge] at HD HOK HN3;obtain⟨GB,hGB⟩:=qE ((C5 fs l.fr).1);have HGT:Hid (C5 fs l.fr=(GB,ge)):=(show _=_ by rw[hGB,hge]);have HPT:Hid (o4 l W=((o4 l W).1,pe)):=(show _=_ by rw[hpe]);generalize (⟨l.tu.toArray⟩:ByteArray)=tx at *;generalize l.fr.length=NFR at *;generalize l.cs.length=NCS at *;generalize fs.length=NFS at *;generalize Re:pk.length=NPK at *;have HNPK:=qH Re;clear hf hd Ad hfs hff hq hE hfn hpe hge Af hGB Re;go_enter Tryz.func42,Tryz.ntmps42;go_wp2_with fail;refine Calls.mono (HP.out _ b9) ?_;rintro e w1 ⟨an1,cn1,rfl,hn1,hb1⟩;rw[HPT.out] at hn1 ⊢;simp only at hn1 ⊢;have hB1:Bq w w1:=Below.trans (b9 (w:=w)) (hb1.mono (by simp))
 have hrw1:=(hb1.block w.heap.size (by simp)).trans (heap_alloc_new w _);obtain⟨x0,x1,x2⟩:=aX1 hb1;have HB1:=qH hB1;have HN1:=qH hn1;have HX1:Hid (w1.cell? ⟨w.heap.size,0,none⟩=some (.slice af NFR cf)/\w.heap.size<w1.heap.size):=⟨x0,(aSm hrw1).1⟩;clear hn1 hb1 hB1 HP hrw1 x0 x1 x2;by_cases hp0:pe=0
 .
  subst hp0;have HD2:Hid _:=HD.out;rw[if_neg (by simp)] at HD2;have Ww:Hid _:=HOK.out rfl;have Wx:Hid _:=HN3.out rfl;have HG2:Hid _:=HGA.out (w1.alloc (.cells #[.slice an1 (o4 l W).1.length cn1] 24)) (HB1.out.trans ((b9 (w:=w1)).mono HB1.out.size));have HX2:Hid ((w1.alloc (.cells #[.slice an1 (o4 l W).1.length cn1] 24)).cell? ⟨w.heap.size,0,none⟩=some (.slice af NFR cf)):=(show _=_ from ((b9 (w:=w1)).cell HX1.out.2).trans HX1.out.1);have x0:=HX2.out;clear HD HOK HN3 HGA;go_wp2_with fail;refine Calls.mono HG2.out ?_;rintro e w2 ⟨a2,c2,rfl,hr2,hb2⟩;rw[HGT.out];simp only;have Dq:Bq w1 w2:=Below.trans (b9 (w:=w1)) (hb2.mono (by simp));have HB2:Hid (Bq w w2):=HB1.out.trans (Dq.mono HB1.out.size);have HN2:Hid (A2 w2 (.slice an1 (o4 l W).1.length cn1) (o4 l W).1):=A2.below HN1.out Dq
  have g0:w2.cell? ⟨w1.heap.size,0,none⟩=some (.slice an1 (o4 l W).1.length cn1):=by rw[hb2.cell (by simp),cell_of_row _ _ _ _ _ _ (heap_alloc_new w1 _)];rfl
  generalize GB.length=GL at *;clear hr2 hb2 Dq HG2 HN1 HX1 x0;by_cases hg0:ge=0
  .
   subst hg0;have HD3:Hid _:=HD2.out;rw[if_neg (by simp)] at HD3;have Wy:Hid _:=Ww.out rfl;have Wz:Hid _:=Wx.out rfl;have HC3:Hid _:=HNW.out w2 an1 cn1 HB2.out HN2.out;clear HD2 Ww Wx HNW HN2;obtain⟨NL,hNL⟩:=qE ((o4 l W).1.length);rw[<- hNL] at HC3 g0;clear hNL;go_wp2_with fail;refine Calls.mono HC3.out ?_;rintro e w3 ⟨v,rfl,hA3,hb3⟩;have HB3:Hid (Bq w w3):=HB2.out.trans (hb3.mono HB2.out.size);obtain⟨an,af',ax,ap,aS,cn,cf',cx,cp,cs,rfl,hM3⟩:=hA3;clear hb3 HC3 g0;by_cases hr0:room<1\/1000<room
   . have HR:Hid (RES=([],3)):=(show _=_ by rw[HD3.out,if_pos hr0]);rw[Wz.out hr0];unfold machV;generalize (newS (o4 l W).1 fs room).1.ns.length=N0 at *;generalize (newS (o4 l W).1 fs room).1.fs.length=N1 at *;generalize (newS (o4 l W).1 fs room).1.pipes.length=N2 at *;generalize (newS (o4 l W).1 fs room).1.ps.length=N3 at *;generalize (newS (o4 l W).1 fs room).1.sunk.length=N4 at *;clear hM3 HD3 Wy Wz Ak Cb hr0;go_wp2_with fail;go_ret2;exact aj9 HR.out rfl (HB3.out.trans ((b9 (w:=w3)).mono HB3.out.size))
   .
    obtain⟨hnw,I,hI,hIM,Ae,kf,rf,Eu,Tt⟩:=Wy.out hr0;have HD4:Hid _:=HD3.out;rw[if_neg hr0] at HD4;rw[hnw] at hM3 ⊢;simp only at hM3 ⊢;obtain⟨M,hM⟩:=qE (o7 (o4 l W).1 fs room);rw[<- hM] at hM3 hIM Eu ⊢;obtain⟨m1,m2,m3,m4⟩:=Ae M hIM;have HI:Hid (InvM M.ns M.fs I):=(show InvM _ _ _ by rw[m3,m4];exact hI);obtain⟨W4,hW4⟩:=qE (w3.alloc (.cells #[.slice an M.ns.length cn,.slice af' M.fs.length cf',.slice ax M.pipes.length cx,.slice ap M.ps.length cp,.slice aS M.sunk.length cs] 30));have hb4:Bq w3 W4:=by rw[hW4];exact b9
    have HB4:Hid (Bq w W4):=HB3.out.trans (hb4.mono HB3.out.size);have Ge:W4.heap[w3.heap.size]? = some (.cells #[.slice an M.ns.length cn,.slice af' M.fs.length cf',.slice ax M.pipes.length cx,.slice ap M.ps.length cp,.slice aS M.sunk.length cs] 30 (0,0)):=by rw[hW4];exact heap_alloc_new _ _
    have HRU:Hid _:=Ak.out W4 an af' ax ap aS cn cf' cx cp cs M HB4.out (hM3.below hb4) m1 m2 I HI.out hIM;have Do:=qH Ge;have HRR:Hid (runR M pk=if 40000<NPK then (H7,[],2) else ((l9 M pk).1,(l9 M pk).2,0)):=(show _=_ by unfold runR;rw[if_neg (by simp[m2]),HNPK.out])
    have HIP:Hid (InvM (l9 M pk).1.ns (l9 M pk).1.fs I/\I (l9 M pk).1/\FitsM (l9 M pk).1/\mchk (l9 M pk).1=0):=(show _/\_ by
     have h1:=HI.out.picks pk M hIM
     obtain⟨p1,p2,p3,p4⟩:=Ae _ h1
     exact⟨by rw[p3,p4];exact hI,h1,p1,p2⟩)
    have HFI:Hid (Fins kf (l9 M pk).1 (rf,0)/\rf.sunk=(A3 fs l).1):=⟨Eu,Tt⟩;obtain⟨BM,hBM⟩:=qE w3.heap.size;have HBM:Hid (w.heap.size<=BM):=(show _<=_ by rw[hBM];exact HB3.out.size);unfold machV at HRU ⊢;generalize M.ns.length=N0 at *;generalize M.fs.length=N1 at *;generalize M.pipes.length=N2 at *;generalize M.ps.length=N3 at *;generalize M.sunk.length=N4 at *;rw[<- hBM] at Do;clear hM3 HD3 Wy Wz Ak hI hIM Ae Eu Tt hnw m1 m2 m3 m4 HI Ge hb4 hM;go_upto_region 10 with fail;rw[<- hW4,<- hBM];obtain⟨z0,z1,z2,z3,z4,_⟩:=j6 Do.out;clear hW4 hBM;go_wp2_with fail;refine Calls.mono HRU.out ?_;rintro e w5 ⟨v5,s5,rfl,hA5,hS5,hb5⟩;have HB5:Hid (Bq w w5):=HB4.out.trans (hb5.mono HB4.out.size);have Cd:=(hb5.block BM (aSm Do.out).1).trans Do.out;have Oz:BM<W4.heap.size:=(aSm Do.out).1;obtain⟨bn,bf,bx,bp,bS,dn,df,dx,dp,ds,rfl,hN5⟩:=hA5
    obtain⟨x0,x1,x2,x3,x4,xf⟩:=j6 Cd;have xf0:=xf 0;have xf1:=xf 1;have xf2:=xf 2;have xf3:=xf 3;have xf4:=xf 4;rw[HRR.out] at hN5 ⊢;unfold machV;clear hb5 hS5 z0 z1 z2 z3 z4 HRU xf HRR;by_cases hp4:40000<NPK
    . have HR:Hid (RES=([],2)):=(show _=_ by rw[HD4.out,if_pos hp4]);rw[if_pos hp4];simp only;generalize H7.ns.length=Z0 at *;generalize H7.fs.length=Z1 at *;generalize H7.pipes.length=Z2 at *;generalize H7.ps.length=Z3 at *;generalize H7.sunk.length=Z4 at *;clear hN5 Cd Cb HIP HFI HD4;go_wp2_with fail;go_ret2;exact aj9 HR.out rfl (D3 HB5.out HBM.out)
    .
     have HR:Hid (RES=((A3 fs l).1,0)):=(show _=_ by rw[HD4.out,if_neg hp4]);rw[if_neg hp4] at hN5 ⊢;simp only at hN5 ⊢;obtain⟨M5,hM5⟩:=qE ((l9 M pk).1);rw[<- hM5] at hN5 HIP HFI ⊢;obtain⟨W6,hW6⟩:=qE (((((w5.setCell ⟨BM,0,none⟩ (.slice bn M5.ns.length dn)).setCell ⟨BM,1,none⟩ (.slice bf M5.fs.length df)).setCell ⟨BM,2,none⟩ (.slice bx M5.pipes.length dx)).setCell ⟨BM,3,none⟩ (.slice bp M5.ps.length dp)).setCell ⟨BM,4,none⟩ (.slice bS M5.sunk.length ds));have hBX:=(L8 (b:=BM) hN5 Oz Cd rfl rfl rfl rfl rfl).2.self;have Dw:=S0 (v0:=.slice bn M5.ns.length dn) (v1:=.slice bf M5.fs.length df) (v2:=.slice bx M5.pipes.length dx) (v3:=.slice bp M5.ps.length dp) (v4:=.slice bS M5.sunk.length ds) Cd;rw[<- hW6] at hBX Dw;have HB6:Hid (Bq w W6):=(show Below _ _ _ by rw[hW6];exact D3 HB5.out HBM.out)
     have HFC:Hid _:=Cb.out W6 bn bf bx bp bS dn df dx dp ds M5 HB6.out hBX HIP.out.2.2.1 HIP.out.2.2.2 I HIP.out.1 HIP.out.2.1 kf rf HFI.out.1;have Ax:=qH Dw;unfold machV at HFC;generalize M5.ns.length=N0 at *;generalize M5.fs.length=N1 at *;generalize M5.pipes.length=N2 at *;generalize M5.ps.length=N3 at *;generalize M5.sunk.length=N4 at *;clear hN5 Cd Cb HD4 hBX hM5 Dw Oz;go_upto_region 13 with fail;rw[<- hW6];obtain⟨z0,z1,z2,z3,z4,_⟩:=j6 Ax.out;clear hW6 x0 x1 x2 x3 x4 xf0 xf1 xf2 xf3 xf4;go_wp2_with fail;refine Calls.mono HFC.out ?_;rintro e w7 ⟨v7,rfl,hA7,hb7⟩;have HB7:Hid (Bq w w7):=HB6.out.trans (hb7.mono HB6.out.size);have As:=(hb7.block BM (aSm Ax.out).1).trans Ax.out;have Oz:BM<W6.heap.size:=(aSm Ax.out).1;obtain⟨cn7,cf7,cx7,cp7,cS7,en,ef,ex,ep,es,rfl,hN7⟩:=hA7;obtain⟨x0,x1,x2,x3,x4,xf⟩:=j6 As;have xf0:=xf 0;have xf1:=xf 1
     have xf2:=xf 2;have xf3:=xf 3;have xf4:=xf 4;unfold machV;obtain⟨W8,hW8⟩:=qE (((((w7.setCell ⟨BM,0,none⟩ (.slice cn7 rf.ns.length en)).setCell ⟨BM,1,none⟩ (.slice cf7 rf.fs.length ef)).setCell ⟨BM,2,none⟩ (.slice cx7 rf.pipes.length ex)).setCell ⟨BM,3,none⟩ (.slice cp7 rf.ps.length ep)).setCell ⟨BM,4,none⟩ (.slice cS7 rf.sunk.length es));have hBX:=(L8 (b:=BM) hN7 Oz As rfl rfl rfl rfl rfl).2.self.sunk;have Ah:=S0 (v0:=.slice cn7 rf.ns.length en) (v1:=.slice cf7 rf.fs.length ef) (v2:=.slice cx7 rf.pipes.length ex) (v3:=.slice cp7 rf.ps.length ep) (v4:=.slice cS7 rf.sunk.length es) As;rw[<- hW8] at hBX Ah;have HRS:=qH hBX;have HB8:Hid (Bq w W8):=(show Below _ _ _ by rw[hW8];exact D3 HB7.out HBM.out);obtain⟨q0,q1,q2,q3,q4,_⟩:=j6 Ah;have HSK:Hid (rf.sunk=(A3 fs l).1):=HFI.out.2;generalize rf.ns.length=R0 at *;generalize rf.fs.length=R1 at *
     generalize rf.pipes.length=R2 at *;generalize rf.ps.length=R3 at *;generalize hR4:rf.sunk.length=R4 at *;clear hN7 As hBX Oz z0 z1 z2 z3 z4 hb7 HFC HFI HIP xf Ah;go_upto_region 14 with fail;rw[<- hW8];clear hW8 x0 x1 x2 x3 x4 xf0 xf1 xf2 xf3 xf4;go_wp2_with fail;go_ret2;refine⟨cS7,es,?_,?_,HB8.out⟩
     . rw[HR.out,<- HSK.out,<- hR4];rfl
     . rw[HR.out,<- HSK.out];have:=HRS.out;rw[<- hR4] at this;exact this
  . have HR:Hid (RES=([],ge)):=(show _=_ by rw[HD2.out,if_pos hg0]);generalize (o4 l W).1.length=NL at *;clear HD2 Ww Wx HNW HN2;go_wp2_with fail;go_ret2;exact aj9 HR.out rfl HB2.out
 . have HR:Hid (RES=([],pe)):=(show _=_ by rw[HD.out,if_pos hp0]);generalize (o4 l W).1.length=NL at *;clear HD HOK HN3;go_wp2_with fail;go_ret2;exact aj9 HR.out rfl (HB1.out.trans ((b9 (w:=w1)).mono HB1.out.size))
theorem bA3 (w:World):S1 w (.slice none 0 0) []:=⟨none,0,rfl,by simp,by simp[maxLen],fun h=>absurd rfl h⟩
theorem cm5 (fs:List SFile):runS fs []=if fchk fs=0 then (fs,0) else ([],fchk fs):=by
 unfold runS;split
 . rfl
 . rfl
theorem bA4 {W room:Int} {n:Nat} {fs:List SFile} {ls:List SLine} (h:fchk fs≠0):ai2 W room n fs ls=([],fchk fs):=by unfold ai2;rw[if_neg h]
theorem ca8 {W room:Int} {n:Nat} {fs:List SFile} {ls:List SLine} (h:fchk fs=0) (h2:schk ls≠0):ai2 W room n fs ls=([],schk ls):=by unfold ai2;rw[if_pos h,if_neg h2]
theorem cm6 {W room:Int} {n:Nat} {fs:List SFile} {ls:List SLine} (h:fchk fs=0) (h2:schk ls=0):ai2 W room n fs ls=ae4 W room n fs ls:=by unfold ai2;rw[if_pos h,if_pos h2]
theorem bM9 (W room:Int) (pk:List Int) (ao al aq:Option Addr) (cap cl cq:Nat) (fs:List SFile) (ls:List SLine) (w:World) (hf:j9 w (.slice ao fs.length cap) fs) (Ad:∀f∈fs,M3 f) (hl:S1 w (.slice al ls.length cl) ls) (hfl:∀x∈ls,Y5 x) (hq:Reads w (.slice aq pk.length cq) pk.length (Zs pk)) (hE:t8 w) :
 Calls Tryz.prog 43 #[.slice ao fs.length cap,.slice al ls.length cl,.int .i64 W,.int .i64 room,.slice aq pk.length cq] w fun e w'=>aw2 w (ai2 W room pk.length fs ls) e w':=by
 have HRN:Hid (Calls Tryz.prog 53 #[.slice ao fs.length cap,.slice none 0 0] w fun e w'=>aw2 w (runS fs []) e w'):=cm3 ao none cap 0 fs [] w hf Ad (bA3 w) (fun x hx=>by cases hx) hE.1;rw[cm5] at HRN;have HSC:Hid (∀V,Bq w V->Calls Tryz.prog 107 #[.slice al ls.length cl] V fun e w'=>e=.returned (.int .i64 (schk ls))/\Bq V w'):=(show ∀V,_ from fun V hb=>bf9 al cl ls V (hl.below hb) hfl);have HL:=qH hl;have HFL:=qH hfl;have HE:=qH hE;have HQ:=qH hq;have hle:=bg0 hl;obtain⟨N,hN⟩:=qE fs.length;obtain⟨M,hM⟩:=qE ls.length;have HM:=qH hM;obtain⟨P,hP⟩:=qE pk.length;have HP:=qH hP;rw[<- hN] at HRN ⊢;rw[<- hM] at HSC HL hle ⊢;rw[<- hP] at HQ ⊢;clear hf Ad hl hfl hq hE hN hM hP;by_cases h0:fchk fs=0
 .
  have HCK:=qH h0;rw[if_pos h0] at HRN;clear h0;by_cases h1:schk ls=0
  .
   obtain⟨hm6,Ae⟩:=aJ3 h1;rw[<- HM.out] at hm6;have HALL:=qH Ae;have HRS:Hid (ai2 W room P fs ls=ae4 W room P fs ls):=cm6 HCK.out h1;rw[h1] at HSC;clear Ae h1;go_enter Tryz.func43,Tryz.ntmps43;go_wp2_with fail;refine Calls.mono HRN.out ?_;rintro e w1 ⟨a1,c1,rfl,hf1,hb1⟩;simp only at hf1 ⊢;have HB1:=qH hb1;obtain⟨N1,hN1⟩:=qE fs.length;rw[<- hN1] at hf1 ⊢;have HF1:=qH hf1;have HN1:=qH hN1;clear hb1 HRN hf1 hN1;go_wp2_with fail;have hQ:=HSC.out w1 HB1.out;refine Calls.mono hQ ?_;rintro e w2 ⟨rfl,hb2⟩;have HB2:Hid (Bq w w2):=HB1.out.trans (hb2.mono HB1.out.size);have HF2:Hid (j9 w2 (.slice a1 N1 c1) fs):=j9.below HF1.out hb2;clear hb2 hQ HSC HB1 HF1;go_wp2_with fail
   go_loopw [12,33] (fun fv i wr=>∃k:Nat,∃cur:List SFile,∃ac cc nc,k<=M/\i=.int .i64 k/\fv=.slice ac nc cc/\Hid (nc=cur.length)/\Hid (j9 wr (.slice ac nc cc) cur)/\Hid (fchk cur=0)/\Hid (ae4 W room P fs ls=ae4 W room P cur (ls.drop k))/\Hid (Bq w wr)) (fun _ i _=>M-(intOf i).toNat)
   case atStart=>exact⟨0,fs,a1,c1,_,Nat.zero_le _,rfl,rfl,HN1,HF2,HCK,(show _=_ from rfl),HB2⟩
   case round=>
    clear HF2 HB2;obtain⟨k,cur,ac,cc,nc,hk,rfl,rfl,HNC,HRF,HRI,HRL,Aa⟩:=hrel;by_cases hlt:k<M
    .
     obtain⟨x,hx⟩:∃x,ls[k]? = some x:=⟨_,gEl (by have:=HM.out;omega)⟩;obtain⟨b,off,af,cf,ad,cd,rfl,hc0,hc1,hc2,hr,hd⟩:=(S1.below HL.out Aa.out).at hx;have hfx:=HFL.out x (mGt hx)
     have HLI:Hid (Calls Tryz.prog 42 #[.slice ac nc cc,.agg #[.slice af x.fr.length cf,.slice ad x.cs.length cd,.string ⟨x.tu.toArray⟩],.int .i64 W,.int .i64 room,.slice aq P cq] wr fun e w'=>ah7 wr (F2 W room P cur x) e w'):=(show Calls _ _ _ _ _ by
      have:=aX2 x W room cur pk af ad ac aq cf cd cc cq wr hr hd hfx (by rw[<- HNC.out];exact HRF.out) (right_fits HRI.out) (by rw[<- HP.out];exact Reads.below HQ.out Aa.out) (HE.out.below Aa.out)
      rw[<- HNC.out,<- HP.out] at this
      exact this)
     have HPU:Hid _:=fun (V:World) (hb:Bq wr V) (ab:Option Addr) (cb:Nat) (hrb:Reads V (.slice ab (F2 W room P cur x).1.length cb) (F2 W room P cur x).1.length ((F2 W room P cur x).1.map U))=>cm0 ac ab cc cb cur x.tu (F2 W room P cur x).1 V (by rw[<- HNC.out];exact HRF.out.below hb) (right_fits HRI.out) hrb hfx.2.2;rw[<- HNC.out,bg3 HRI.out] at HPU;have HDR:Hid (ls.drop k=x::ls.drop (k+1)):=drop_at hx;have HC2:Hid (∀V,Bq wr V->V.cell? ⟨b,off+k*3+2,none⟩=some (.string ⟨x.tu.toArray⟩)):=(show ∀V,_ from fun V hV=>(hV.cell (bLt wr _ hc2)).trans hc2);obtain⟨le,Kz⟩:=qE ((F2 W room P cur x).2);have HLE:=qH Kz;generalize (⟨x.tu.toArray⟩:ByteArray)=tx at *;generalize x.fr.length=NF at *;generalize x.cs.length=ND at *;clear hx hr hd hfx Kz;go_wp2_with fail;refine Calls.mono HLI.out ?_;rintro e w4 ⟨ab,cb,rfl,hrb,hb4⟩;have Ib:=qH hb4
     have HB4:Hid (Bq w w4):=Aa.out.trans (Ib.out.mono Aa.out.size);have hx2:=HC2.out w4 hb4;have HRB:Hid _:=hrb;rw[<- HLE.out];by_cases Ox:le=0
     . subst Ox;obtain⟨pe,hpe⟩:=qE ((putS cur x.tu (F2 W room P cur x).1).2);have HPE:=qH hpe;obtain⟨PN,hPN⟩:=qE ((F2 W room P cur x).1.length);have hP:=HPU.out w4 Ib.out ab cb HRB.out;rw[<- hPN] at hP ⊢;have HPP:Hid _:=hP;clear hb4 HLI hrb hP HPU hPN hpe HRB hc0 hc1 hc2 HC2;go_wp2_with fail;refine Calls.mono HPP.out ?_;rintro e w5 ⟨ar,cr,rfl,Jo,hb5⟩;have HB5:Hid (Bq w w5):=HB4.out.trans (hb5.mono HB4.out.size);have HR5:=qH Jo;rw[<- HPE.out];by_cases Oy:pe=0
       . subst Oy;have Wu:Hid (ae4 W room P fs ls=ae4 W room P (putS cur x.tu (F2 W room P cur x).1).1 (ls.drop (k+1))):=(show _=_ by rw[HRL.out,HDR.out,cm4 HLE.out.symm HPE.out.symm]);have Wv:Hid (fchk (putS cur x.tu (F2 W room P cur x).1).1=0):=aB6 HRI.out HPE.out.symm;obtain⟨QN,hQN⟩:=qE ((putS cur x.tu (F2 W room P cur x).1).1.length);have HQN:=qH hQN;rw[<- hQN] at HR5 ⊢;clear hb5 HPP Jo hQN hx2;go_wp2_with fail;go_roundw
         case rel=>exact⟨k+1,_,_,_,_,by omega,by go_num,rfl,HQN,HR5,Wv,Wu,HB5⟩
         case measure=>simp[intOf];omega
       . have HR:Hid (ai2 W room P fs ls=([],pe)):=(show _=_ by rw[HRS.out,HRL.out,HDR.out,ca6 HLE.out.symm (by rw[<- HPE.out];exact Oy),<- HPE.out]);generalize (putS cur x.tu (F2 W room P cur x).1).1.length=QN at *;clear hb5 HPP Jo hx2 HR5;go_wp2_with fail;go_ret2;exact J0 HR.out rfl HB5.out
     . have HR:Hid (ai2 W room P fs ls=([],le)):=(show _=_ by rw[HRS.out,HRL.out,HDR.out,bJ9 (by rw[<- HLE.out];exact Ox),<- HLE.out]);generalize (F2 W room P cur x).1.length=PN at *;clear hb4 HLI hrb HPU HRB hc0 hc1 hc2 HC2;go_wp2_with fail;go_ret2;exact J0 HR.out rfl HB4.out
    . have HR:Hid (ai2 W room P fs ls=(cur,0)):=(show _=_ by rw[HRS.out,HRL.out,List.drop_of_length_le (by have:=HM.out;omega)];rfl);go_wp2_with fail;go_ret2;refine⟨ac,cc,?_,?_,Aa.out⟩
      . rw[HR.out,<- HNC.out];rfl
      . rw[HR.out];have:=HRF.out;rw[HNC.out] at this;exact this
  . have HR:Hid (ai2 W room P fs ls=([],schk ls)):=ca8 HCK.out h1;obtain⟨sk,hsk⟩:=qE (schk ls);rw[<- hsk] at HSC HR h1;clear hsk;go_enter Tryz.func43,Tryz.ntmps43;go_wp2_with fail;refine Calls.mono HRN.out ?_;rintro e w1 ⟨a1,c1,rfl,hf1,hb1⟩;simp only;have HB1:=qH hb1;generalize fs.length=N1 at *;clear hb1 HRN hf1;go_wp2_with fail;have hQ:=HSC.out w1 HB1.out;refine Calls.mono hQ ?_;rintro e w2 ⟨rfl,hb2⟩;have HB2:Hid (Bq w w2):=HB1.out.trans (hb2.mono HB1.out.size);clear hb2 hQ HSC HB1;go_wp2_with fail;go_ret2;exact J0 HR.out rfl HB2.out
 . have HR:Hid (ai2 W room P fs ls=([],fchk fs)):=bA4 h0;rw[if_neg h0] at HRN;obtain⟨ck,hck⟩:=qE (fchk fs);rw[<- hck] at HRN HR h0;clear hck;go_enter Tryz.func43,Tryz.ntmps43;go_wp2_with fail;refine Calls.mono HRN.out ?_;rintro e w1 ⟨a1,c1,rfl,hf1,hb1⟩;simp only;have HB1:=qH hb1;clear hb1 HRN hf1;go_wp2_with fail;go_ret2;exact J0 HR.out rfl HB1.out
end Go.Proofs.YtllgglolcgdehaaGreatDoor
