/- slices.BinarySearchFunc at files that rise; find, and more. -/
import Derived.Test.YtllgglolcgdehaaGreatDoorQAb
import Derived.Test.YtllgglolcgdehaaGreatDoorQa14
set_option maxRecDepth 100000
set_option maxHeartbeats 16000000
namespace Go.Proofs.YtllgglolcgdehaaGreatDoor
open Go.RowKit Go.Gs
set_option linter.unusedVariables false
theorem bH0 (ao:Option Addr) (cap:Nat) (fs:List SFile) (n:List UInt8) (w:World) (hf:j9 w (.slice ao fs.length cap) fs) (hr:q8 none fs=0) (h12:fs.length<=12) :
 Calls Tryz.prog 199 #[.slice ao fs.length cap,.string ⟨n.toArray⟩,.func (.func 200) #[] #[]] w fun e w'=>e=.returned (.tuple #[.int .i64 (K2 fs n),.bool (E3 fs n)])/\Bq w w':=by
 have HF:=qH hf;have HRI:=qH hr;have Vk:=aR8 fs n;obtain⟨N,hN⟩:=qE fs.length;have HN:=qH hN;obtain⟨p,hp⟩:=qE (K2 fs n);have HP:=qH hp;rw[<- hN] at HF h12 Vk ⊢;rw[<- hp] at Vk ⊢;obtain⟨nx,hnx⟩:=qE (⟨n.toArray⟩:ByteArray);have HNX:=qH hnx;rw[<- hnx];clear hf hr hN hp hnx;go_enter Tryz.func199,Tryz.ntmps199;go_wp2_with fail;go_loopw [9,10] (fun s9 s10 wr=>∃lo hi:Nat,s9=.int .i64 lo/\s10=.int .i64 hi/\lo<=p/\p<=hi/\hi<=N/\Hid (Bq w wr)) (fun s9 s10 _=>(intOf s10).toNat-(intOf s9).toNat)
 case atStart=>exact⟨0,N,rfl,rfl,Nat.zero_le _,Vk,Nat.le_refl _,Below.refl _ _⟩
 case round=>
  obtain⟨lo,hi,rfl,rfl,hlp,hph,hhN,Aa⟩:=hrel;by_cases hlt:lo<hi
  .
   obtain⟨h,hh⟩:=qE ((lo+hi) / 2);have hlh:lo<=h:=by omega
   have hhh:h<hi:=by omega
   obtain⟨f,hfk⟩:∃f,fs[h]? = some f:=⟨_,gEl (by have:=HN.out;omega)⟩;have hpi:=bL2 (n:=n) HRI.out hfk;rw[<- HP.out] at hpi;obtain⟨b,off,ab,cb,rfl,hc0,hc1,hrr⟩:=(j9.below HF.out Aa.out).at hfk;have HC:Hid _:=fun (W:World)=>bw6 f.name (.int .i64 0) ab f.b.length cb n W;rw[<- HNX.out] at HC;have hcn:=cmp_neg f.name n;generalize Lib.compareBytes f.name n=r at *;generalize (⟨f.name.toArray⟩:ByteArray)=fx at *;generalize f.b.length=L at *;clear hfk hrr;subst hh;by_cases hpp:(lo+hi) / 2<p
   . have hr0:r<0:=hcn.2 (hpi.2 hpp);clear hcn hpi;go_wp2_with fail;refine Calls.mono (HC.out _) ?_;rintro e w3 ⟨rfl,hb3⟩;have HB3:Hid (Bq w w3):=Aa.out.trans (hb3.mono Aa.out.size);clear hb3 HC hc0 hc1;go_wp2_with fail;go_roundw
     case rel=>exact⟨(lo+hi) / 2+1,hi,by rw[show ((lo:Int)+(hi:Int)) / 2+1=(((lo+hi) / 2+1:Nat):Int) by omega],rfl,by omega,hph,hhN,HB3⟩
     case measure=>simp[intOf];omega
   . have hr0:¬r<0:=fun x=>hpp (hpi.1 (hcn.1 x));clear hcn hpi;go_wp2_with fail;refine Calls.mono (HC.out _) ?_;rintro e w3 ⟨rfl,hb3⟩;have HB3:Hid (Bq w w3):=Aa.out.trans (hb3.mono Aa.out.size);clear hb3 HC hc0 hc1;go_wp2_with fail;go_roundw
     case rel=>exact⟨lo,(lo+hi) / 2,rfl,by rw[show ((lo:Int)+(hi:Int)) / 2=(((lo+hi) / 2:Nat):Int) by omega],hlp,by omega,by omega,HB3⟩
     case measure=>simp[intOf];omega
  .
   obtain rfl:lo=p:=by omega
   obtain rfl:hi=lo:=by omega
   by_cases hlN:hi<N
   . obtain⟨f,hfk⟩:∃f,fs[hi]? = some f:=⟨_,gEl (by have:=HN.out;omega)⟩;have hth:=bD0 (l:=fs) (n:=n) (by rw[<- HP.out];exact hfk);obtain⟨b,off,ab,cb,rfl,hc0,hc1,hrr⟩:=(j9.below HF.out Aa.out).at hfk;have HC:Hid _:=fun (W:World)=>bw6 f.name (.int .i64 0) ab f.b.length cb n W;rw[<- HNX.out] at HC;have hcz:=cj1 f.name n;have HTH:=qH hth;generalize Lib.compareBytes f.name n=r at *;generalize (⟨f.name.toArray⟩:ByteArray)=fx at *;generalize f.b.length=L at *;clear hfk hrr hth;by_cases hfn:f.name=n
     . have hr0:r=0:=hcz.2 hfn;have HT:Hid (E3 fs n=true):=(show _=_ by rw[HTH.out];exact decide_eq_true hfn);subst hr0;clear hcz HTH hfn;go_wp2_with fail;refine Calls.mono (HC.out _) ?_;rintro e w3 ⟨rfl,hb3⟩;have HB3:Hid (Bq w w3):=Aa.out.trans (hb3.mono Aa.out.size);clear hb3 HC hc0 hc1;go_wp2_with fail;go_ret2;exact⟨by rw[HT.out];rfl,HB3.out⟩
     . have hr0:¬r=0:=fun x=>hfn (hcz.1 x);have HT:Hid (E3 fs n=false):=(show _=_ by rw[HTH.out];exact decide_eq_false hfn);clear hcz HTH hfn;go_wp2_with fail;refine Calls.mono (HC.out _) ?_;rintro e w3 ⟨rfl,hb3⟩;have HB3:Hid (Bq w w3):=Aa.out.trans (hb3.mono Aa.out.size);clear hb3 HC hc0 hc1;go_wp2_with fail;go_ret2;exact⟨by rw[HT.out,show false=(r == 0) by simp[hr0]];rfl,HB3.out⟩
   . have HT:Hid (E3 fs n=false):=bD1 (by rw[<- HP.out,<- HN.out];omega);go_wp2_with fail;go_ret2;exact⟨by rw[HT.out];rfl,Aa.out⟩
theorem bl6 (ao:Option Addr) (cap:Nat) (fs:List SFile) (n:List UInt8) (w:World) (hf:j9 w (.slice ao fs.length cap) fs) (hr:q8 none fs=0) (h12:fs.length<=12) :
 Calls Tryz.prog 154 #[.slice ao fs.length cap,.string ⟨n.toArray⟩] w fun e w'=>e=.returned (.tuple #[.int .i64 (K2 fs n),.bool (E3 fs n)])/\Bq w w':=by have HB:Hid _:=bH0 ao cap fs n w hf hr h12;generalize K2 fs n=p at *;generalize E3 fs n=t at *;generalize fs.length=N at *;generalize (⟨n.toArray⟩:ByteArray)=nx at *;clear hf hr;go_enter Tryz.func154,Tryz.ntmps154;go_wp2_with fail;refine Calls.mono HB.out ?_;rintro e w1 ⟨rfl,hb1⟩;have HB1:=qH hb1;clear hb1 HB;go_wp2_with fail;go_ret2;exact⟨rfl,HB1.out⟩
theorem cr5:(Tryz.prog.info? 5).map (fun i=>(i.zero,i.size,i.bytes))=some (some (.int .u8 0),1,1):=by kernel_rfl
theorem aM4 (w:World):Reads w (.slice none 0 0) 0 []:=⟨rfl,none,0,rfl,Nat.le_refl _,by simp[maxLen],fun h=>absurd rfl h⟩
theorem cx5 {bs:List UInt8}:∀u∈bs.map U,u.oneCell'=true:=by intro u hu;obtain⟨x,_,rfl⟩:=List.mem_map.1 hu;rfl
theorem aI8 (ab:Option Addr) (cb:Nat) (bs:List UInt8) (w:World) (hr:Reads w (.slice ab bs.length cb) bs.length (bs.map U)) (hl:bs.length<=100000) :
 Calls Tryz.prog 125 #[.slice ab bs.length cb] w fun e w'=>∃ar cr,e=.returned (.slice ar bs.length cr)/\Reads w' (.slice ar bs.length cr) bs.length (bs.map U)/\(∀a,ar=some a->w.heap.size<=a.block)/\Bq w w':=by
 obtain⟨i0,hi,hi0,hi1,hi2⟩:=info_parts cr5;have hq:∀(w:World) (a:Option Addr) (n c n' c':Nat),(binOp .eql 28 (.slice a n c) (.slice none n' c')).run Tryz.prog w=.ok (.bool a.isNone) w:=fun w a n c n' c'=>Lib.run_eql_slice_nil w _ _ a n c n' c' Tryz.underlying28;obtain⟨h1,ao,cap,e,h2,h3,h4⟩:=hr;injection e with e1 e2 e3;subst e1 e3
 cases ab with
 | none=>
  have h0:bs=[]:=by
   cases bs with
   | nil=>rfl
   | cons x r=>obtain⟨b,off,e,_⟩:=h4 (by simp);cases e
  subst h0
  clear h4 h1
  go_enter Tryz.func125,Tryz.ntmps125
  go_wp2_with fail
  go_ret
  exact⟨none,0,rfl,aM4 _,(fun a h=>by cases h),Below.refl _ _⟩
 | some a=>
  have Ac:∀j u,(bs.map U)[j]? = some u->w.cell? (a.add j)=some u:=by
   intro j u hj
   have:0<bs.length:=by
    have:=(gSm hj).1
    simp at this
    omega
   obtain⟨b,off,e,hc⟩:=h4 (by omega)
   injection e with e
   subst e
   rw[addF]
   exact hc j u hj
  have HC:Hid _:=Ac
  obtain⟨xs,hxs⟩:=qE (bs.map U)
  have HX:=qH hxs
  obtain⟨N,hN⟩:=qE bs.length
  have HN:=qH hN
  have HXL:Hid (xs.length=N):=(show _=_ by rw[hxs,hN,List.length_map])
  rw[<- hxs] at HC
  rw[<- hxs,<- hN]
  rw[<- hN] at hl
  clear h4 h1 Ac hxs hN h2 h3
  go_enter Tryz.func125,Tryz.ntmps125
  go_wp2_with (at_builtin;refine wpList_append_own _ rfl _ _ 28 rfl w.heap.size 5 i0 (.int .u8 0) 1 1 Tryz.underlying28 hi hi0 hi1 hi2 rfl (by decide) _ _ _ rfl (World.ownsRow_made w #[] 0 (Nat.le_refl _) (Nat.zero_le _) rfl) a N cb xs rfl ?qc1 ?qc2 ?qc3 ?qc4 ?qc5 ?qc6 ?_)
  case qc1=>first | (rw[HXL.out];done) | (rw[HXL.out,Nat.mul_one])
  case qc2=>
   intro j u hj
   have h:=HC.out j u hj
   rw[F6.cell (bLt w _ h)]
   exact h
  case qc3=>rw[HX.out];exact cx5
  case qc4=>unfold maxLen;omega
  case qc5=>omega
  all_goals try (case qc6=>simp)
  .
   intro v' w1 Ab hg Dp
   have HB:Hid (Bq w w1):=F6.grown hg (by simp) (fun k hk=>by injection hk with hk;subst hk;exact Nat.le_refl _)
   have Bg:w1.ownsRow w.heap.size 5 1 v' N xs:=by simpa using Ab
   have HO:=qH Bg
   have HR:Hid (∃ar cr,v'=.slice ar N cr /\ ∀a,ar=some a->w.heap.size<=a.block):=(show ∃ar cr,v'=.slice ar N cr /\ ∀a,ar=some a->w.heap.size<=a.block by
    rcases Bg.2 with ⟨rfl,h0⟩ | ⟨g,cap,cur,rfl,hb,_⟩
    . exact⟨none,0,by rw[h0],fun a h=>by cases h⟩
    . exact⟨_,cap,rfl,fun a h=>by injection h with h;subst h;exact hb⟩)
   clear Ab hg Dp Bg
   go_wp2
   go_ret
   obtain⟨ar,cr,hv,hn⟩:=HR.out
   refine⟨ar,cr,by rw[<- hv];rfl,?_,hn,HB.out⟩
   rw[<- hv]
   exact Reads.of_owns HO.out
def getS (fs:List SFile) (n:List UInt8):List UInt8 × Int:=if fchk fs=0 then (D8 fs n,0) else ([],fchk fs)
def ah7 (w:World) (res:List UInt8 × Int) (e:Ending) (w':World):Prop:=∃ar cr,e=.returned (.tuple #[.slice ar res.1.length cr,.int .i64 res.2])/\Reads w' (.slice ar res.1.length cr) res.1.length (res.1.map U)/\Bq w w'
theorem N8 {w w':World} {res:List UInt8 × Int} {e:Ending} {r:Int} (h:res=([],r)) (he:e=.returned (.tuple #[.slice none 0 0,.int .i64 r])) (hb:Bq w w'):ah7 w res e w':=by subst h;exact⟨none,0,he,aM4 w',hb⟩
theorem cv9 (ao:Option Addr) (cap:Nat) (fs:List SFile) (n:List UInt8) (w:World) (hf:j9 w (.slice ao fs.length cap) fs) (Ad:∀f∈fs,M3 f) :
 Calls Tryz.prog 146 #[.slice ao fs.length cap,.string ⟨n.toArray⟩] w fun e w'=>ah7 w (getS fs n) e w':=by
 have hC:=aa9 ao cap fs w hf Ad;have HC:Hid _:=hC;have HF:=qH hf;obtain⟨N,hN⟩:=qE fs.length;have HN:=qH hN;obtain⟨nx,hnx⟩:=qE (⟨n.toArray⟩:ByteArray);have HNX:=qH hnx;obtain⟨ck,hck⟩:=qE (fchk fs);have HCK:=qH hck;rw[<- hN,<- hck] at HC;rw[<- hN,<- hnx];rw[<- hN] at HF;clear hf Ad hC hN hnx hck;by_cases h0:ck=0
 .
  subst h0;obtain⟨Ff,hri⟩:=I0 HCK.out.symm;have HRI:Hid _:=hri;have HFI:Hid _:=fun (W:World) (hb:Bq w W)=>bl6 ao cap fs n W (by rw[<- HN.out];exact HF.out.below hb) hri Ff;rw[<- HN.out,<- HNX.out] at HFI;have HGS:Hid (getS fs n=(D8 fs n,0)):=(show _=_ by unfold getS;rw[if_pos HCK.out.symm]);rw[<- HN.out] at Ff;have hpl:=aR8 fs n;obtain⟨p,hp⟩:=qE (K2 fs n);have HP:=qH hp;obtain⟨t,ht⟩:=qE (E3 fs n);have HT:=qH ht;rw[<- hp,<- ht] at HFI;rw[<- hp,<- HN.out] at hpl;clear hri hp ht;go_enter Tryz.func146,Tryz.ntmps146;go_wp2_with fail;refine Calls.mono HC.out ?_;rintro e w1 ⟨rfl,hb1⟩;have HB1:=qH hb1;clear hb1 HC;go_wp2_with fail;have hQ:=HFI.out w1 HB1.out;refine Calls.mono hQ ?_;rintro e w2 ⟨rfl,hb2⟩;have HB2:Hid (Bq w w2):=HB1.out.trans (hb2.mono HB1.out.size);clear hb2 hQ HFI HB1
  cases t with
  | false=>
   have HGN:Hid (getS fs n=([],0)):=(show _=_ by rw[HGS.out,aE0 HRI.out HT.out.symm])
   go_wp2_with fail
   go_ret2
   exact N8 HGN.out rfl HB2.out
  | true=>
   obtain⟨f,hfk,hfn⟩:=aw9 HT.out.symm
   have HGF:Hid (getS fs n=(f.b,0)):=(show _=_ by rw[HGS.out,ap5 HRI.out HT.out.symm hfk])
   rw[<- HP.out] at hfk
   have hpN:p<N:=by have:=(gSm hfk).1;rw[HN.out];exact this
   obtain⟨b,off,ab,cb,rfl,hc0,hc1,hrr⟩:=(j9.below HF.out HB2.out).at hfk
   have hb4:=(J2 HRI.out f (mGt hfk)).2
   have HQ:Hid _:=fun (W:World) (hb:Bq w2 W)=>aI8 ab cb f.b W (Reads.below hrr hb) (by omega)
   obtain⟨L,hL⟩:=qE f.b.length
   have HL:=qH hL
   rw[<- hL] at hc1 HQ
   generalize (⟨f.name.toArray⟩:ByteArray)=fx at *
   clear hfk hfn hrr hb4 hL
   go_wp2_with fail
   have hQ:=HQ.out w2 (Below.refl _ _)
   refine Calls.mono hQ ?_
   rintro e w3 ⟨ar,cr,rfl,Nl,Bo,hb3⟩
   have HB3:Hid (Bq w w3):=HB2.out.trans (hb3.mono HB2.out.size)
   have HR3:Hid _:=Nl
   clear hQ HQ Nl Bo hb3
   go_wp2_with fail
   go_ret2
   refine⟨ar,cr,?_,?_,HB3.out⟩
   . rw[HGF.out,<- HL.out];rfl
   . rw[HGF.out];have:=HR3.out;rw[HL.out] at this;exact this
 . have HGS:Hid (getS fs n=([],ck)):=(show _=_ by unfold getS;rw[<- HCK.out,if_neg h0]);go_enter Tryz.func146,Tryz.ntmps146;go_wp2_with fail;refine Calls.mono HC.out ?_;rintro e w1 ⟨rfl,hb1⟩;have HB1:=qH hb1;clear hb1 HC;go_wp2_with fail;go_ret2;exact N8 HGS.out rfl HB1.out
def T9 (w:World) (outs:List (List UInt8)) (e:Ending) (w':World):Prop:=
 ∃ar cr us,e=.returned (.tuple #[.slice ar outs.length cr,.int .i64 0])/\w'.ownsRow w.heap.size 28 1 (.slice ar outs.length cr) outs.length us/\(∀(j:Nat) b,outs[j]? = some b -> ∃u,us[j]? = some u/\Reads w' u b.length (b.map U)/\NewV w.heap.size u)/\Bq w w'
theorem av6 {w W:World} {u:Value} {b:List UInt8} (hb:Bq w W) (hu:Reads W u b.length (b.map U)) (hn:NewV w.heap.size u) :
 T9 w [b] (.returned (.tuple #[.slice (some ⟨W.heap.size,0,none⟩) 1 1,.int .i64 0])) (W.alloc (.cells #[u] 28)):=by
 refine⟨some ⟨W.heap.size,0,none⟩,1,[u],rfl,at6 (heap_alloc_new W _) rfl hb.size (by simp),fun j c hj=>?_,hb.alloc hb.size _⟩
 cases j with
 | zero=>
  simp at hj
  subst hj
  exact⟨u,rfl,hu.below b9,hn⟩
 | succ j=>simp at hj
theorem bV6 {s:List UInt8} (h:isWord s=true):s.length<=9223372036854775807:=by unfold isWord at h;simp only[Bool.and_eq_true,decide_eq_true_eq] at h;omega
theorem cj3 {n:SNode} (h:n.kind=1) (fs:List SFile) (ins:List (List UInt8)):i8 n fs ins=[ended (lines (D8 fs n.file))]:=by unfold i8;rw[if_pos h]
theorem cj4 {n:SNode} (h:n.kind=2) (fs:List SFile) (ins:List (List UInt8)):i8 n fs ins=(List.range n.wide.toNat).map (partOf (ins.head?.getD []) n.wide.toNat):=by unfold i8;rw[if_neg (by omega),if_pos h]
theorem aV3 {n:SNode} (h:n.kind=3) (fs:List SFile) (ins:List (List UInt8)):i8 n fs ins=[ended (made n.c (lines (ins.head?.getD [])))]:=by unfold i8;rw[if_neg (by omega),if_neg (by omega),if_pos h]
theorem bV7 {n:SNode} (h:n.kind=4) (fs:List SFile) (ins:List (List UInt8)):i8 n fs ins=[ended (joined n.how n.c (ins.map lines))]:=by unfold i8;rw[if_neg (by omega),if_neg (by omega),if_neg (by omega),if_pos h]
theorem bV8 {n:SNode} (h:n.kind=5) (fs:List SFile) (ins:List (List UInt8)):i8 n fs ins=[]:=by unfold i8;rw[if_neg (by omega),if_neg (by omega),if_neg (by omega),if_neg (by omega)]
theorem bV9 (n:SNode) (ai ao:Option Addr) (ni ci cap:Nat) (fs:List SFile) (v:Value) (ins:List (List UInt8)) (w:World) (hk:n.kind=5) (hv:RList w v U ins) :
 Calls Tryz.prog 95 #[D2 n ai ni ci,.slice ao fs.length cap,v] w fun e w'=>T9 w (i8 n fs ins) e w':=by rw[bV8 hk];unfold D2;rw[hk];obtain⟨av,cv,rfl,_,_⟩:=hv.shape;generalize (⟨n.file.toArray⟩:ByteArray)=fx;generalize (⟨n.c.word.toArray⟩:ByteArray)=wx0;generalize n.c.kind=ck;generalize n.c.n=cn;generalize n.how=hw;generalize n.wide=wd;clear hv;go_enter Tryz.func95,Tryz.ntmps95;go_wp2_with fail;go_ret2;exact⟨none,0,[],rfl,World.ownsRow_nil _ _ _ _,fun j b hj=>by simp at hj,b9⟩
theorem bw9 (n:SNode) (ai ao:Option Addr) (ni ci cap:Nat) (fs:List SFile) (v:Value) (ins:List (List UInt8)) (w:World) (hk:n.kind=1) (hv:RList w v U ins) (hf:j9 w (.slice ao fs.length cap) fs) (hfc:fchk fs=0) :
 Calls Tryz.prog 95 #[D2 n ai ni ci,.slice ao fs.length cap,v] w fun e w'=>T9 w (i8 n fs ins) e w':=by
 rw[cj3 hk];have hlen:(D8 fs n.file).length<=4000:=by
  unfold D8
  cases hq:fs.find? (fun f=>f.name == n.file) with
  | none=>simp
  | some f=>exact (J2 (I0 hfc).2 f (List.mem_of_find?_eq_some hq)).2
 have hel:=E5 (D8 fs n.file);have HG:Hid _:=fun (W:World) (h:Bq w W)=>cv9 ao cap fs n.file W (hf.below h) (fun f hf=>by have:=(J2 (I0 hfc).2 f hf).1;exact bV6 this);have hgr:getS fs n.file=(D8 fs n.file,0):=by unfold getS;rw[if_pos hfc]
 rw[hgr] at HG;unfold D2;rw[hk];obtain⟨av,cv,rfl,_,_⟩:=hv.shape;obtain⟨N,hN⟩:=qE fs.length;rw[<- hN] at HG;rw[<- hN];generalize D8 fs n.file=fb at *;generalize (⟨n.file.toArray⟩:ByteArray)=fx at *;generalize (⟨n.c.word.toArray⟩:ByteArray)=wx0 at *;generalize n.c.kind=ck at *;generalize n.c.n=cn at *;generalize n.how=hw at *;generalize n.wide=wd at *;clear hv hf hfc hgr hN;go_enter Tryz.func95,Tryz.ntmps95;go_wp2_with fail;have hQ:=HG.out _ (b9 (w:=w) (o:=.cells #[.int .i64 1,.string fx,.int .i64 ck,.string wx0,.int .i64 cn,.int .i64 hw,.int .i64 wd,.slice ai ni ci] 73));refine Calls.mono hQ ?_;rintro e w1 ⟨a1,c1,rfl,hr1,hb1⟩;have HB1:Hid (Bq w w1):=b9.trans (hb1.mono (by simp));have HA:Hid _:=aw4 _ fb w1 hr1 (by omega);simp only;generalize fb.length=fl at *;clear hQ hr1 hb1 HG;go_wp2_with fail;refine Calls.mono HA.out ?_;rintro e w2 ⟨r2,rfl,ho2,hb2⟩
 have HB2:Hid (Bq w w2):=HB1.out.trans (hb2.mono HB1.out.size);have HE:Hid _:=aa5 r2 (lines fb) w2 (Reads.of_owns ho2) (by omega);clear ho2 hb2 HA;go_wp2_with fail;refine Calls.mono HE.out ?_;rintro e w3 ⟨r3,rfl,ho3,hb3⟩;have HB3:Hid (Bq w w3):=HB2.out.trans (hb3.mono HB2.out.size);have HR3:Hid (Reads w3 r3 (ended (lines fb)).length ((ended (lines fb)).map U)):=Reads.of_owns ho3;have HN3:Hid (NewV w.heap.size r3):=(aH9 ho3).mono HB2.out.size;obtain⟨a3,c3,rfl,_,_⟩:=HR3.out.shape;obtain⟨l3,hl3⟩:=qE ((ended (lines fb)).length);rw[<- hl3];clear ho3 hb3 HE;go_wp2_with fail;go_ret2;subst hl3;exact av6 HB3.out HR3.out HN3.out
end Go.Proofs.YtllgglolcgdehaaGreatDoor
