/- What CheckFiles does, and more. -/
import Derived.Test.YtmejdflmcikkdaaGreatDoorVAb
import Derived.Lib.Bytealg
import Derived.Laws.Shifts
import Derived.Test.YtmejdflmcikkdaaGreatDoorVa14
set_option linter.all false
set_option maxRecDepth 100000
set_option maxHeartbeats 64000000
namespace Go.Proofs.YtmejdflmcikkdaaGreatDoor
open Go.RowKit Go.Gs Tryz
variable {bs b s:qU}{w:World}{res:qU × Int}{e:Ending}{r:Int}{u:Value}{n:SNode}
theorem bW1(n:qU)(W:World)(hn:n.length<=9223372036854775807)(iw:Bool)(h:isWord n=iw):
 Calls prog 101 #[.string ⟨n.toArray⟩] W fun e w'=>e=.returned (.bool iw)/\Bq W w':=by refine (be1 n W hn).mono ?_;rintro e w'⟨rfl,rfl⟩;exact⟨by rw[h],Below.refl _ _⟩
theorem aD4(ao:Option Addr)(cap:Nat)(fs:List SFile)(w:World)(hf:o8 w (.slice ao fs.length cap) fs)(Ad:∀f∈fs,al0 f):
 Calls prog 66 #[.slice ao fs.length cap] w fun e w'=>e=.returned (.int .i64 (fchk fs))/\Bq w w':=by
 have hle:=ac2 hf;have HF:=qH hf;have Gz:Hid _:=Ad;obtain⟨N,hN⟩:=qE fs.length;have HN:=qH hN;have hN1:N<=9223372036854775807:=qO;rw[<- hN]at HF ⊢;by_cases Oy:12<N
 . have HR:=qH (show fchk fs=2 by unfold fchk;rw[qF qO]);have hq:(12:Int)<N:=qO;clear hf Ad hle hN;go_enter func66,ntmps66;go_wp2_with fail;go_ret;exact⟨by rw[HR.o];rfl,Below.refl _ _⟩
 .
  have HR:Hid (fchk fs=x9 none fs):=bl9 qO;have hN12:N<=12:=qO;clear hf Ad hle hN Oy hN1;go_enter func66,ntmps66;go_wp2_with fail;go_loopw [10] (fun i wr=>∃k:Nat,k<=N/\i=.int .i64 k/\Hid (Bq w wr)/\Hid (x9 none (fs.take k)=0)) (fun i _=>N-(intOf i).toNat)
  case atStart=>exact⟨0,qM _,rfl,Below.refl _ _,(show _=_ from rfl)⟩
  case round=>
   obtain⟨k,hk,rfl,Aa,hno⟩:=hrel;by_cases hlt:k<N
   .
    obtain⟨f,hfk⟩:∃f,fs[k]?=some f:=⟨_,gEl (by have:=HN.o;omega)⟩;have HFK:=qH hfk;have HRk:Hid (o8 wr (.slice ao N cap) fs):=o8.below HF.o Aa.o;obtain⟨b,off,ab,cb,rfl,hc0,hc1,hr⟩:=HRk.o.at hfk;obtain⟨iw,hiw⟩:=qE (isWord f.name);have HIW:=qH hiw;have HW:Hid _:=fun(W:World)=>bW1 f.name W (Gz.o f (mGt hfk)) iw hiw.symm;have hbl:=aq7 hr;obtain⟨L,hL⟩:=qE f.b.length;have HL:=qH hL;rw[<- hL]at hc1 hbl;obtain⟨fx,hfx⟩:=qE (⟨f.name.toArray⟩:ByteArray);have HFX:=qH hfx;rw[<- hfx]at hc0 HW;clear hfk hr hiw hL hfx;go_wp2_with fail;have hQ:=HW.o (wr.alloc (.cells #[.string fx,.slice ab L cb] 59));refine qD hQ ?_;rintro e w2⟨rfl,hb2⟩;obtain⟨hx0,hx1⟩:=aL1 hb2;have HB2:Hid (Bq w w2):=(Aa.o.alloc Aa.o.size _).trans (hb2.mono (by simp;exact Nat.le_succ_of_le Aa.o.size));have HR2:Hid (o8 w2 (.slice (some ⟨b,off,none⟩) N cap) fs):=o8.below (o8.below HRk.o ac1) hb2;clear hQ hb2 HW hc0 hc1
    cases iw with
    | false=>have HB:=qH (show fbad (G6 none (fs.take k)) f=1 by unfold fbad;rw[qF HIW.o.symm]);have HE:=qH (show fchk fs=1 by rw[HR.o,ai0 HFK.o hno.out (by rw[HB.o];decide),HB.o]);clear hno HB;go_wp2_with fail;go_ret;exact⟨by rw[HE.o];rfl,HB2.o⟩
    | true=>
     by_cases hl4:4000<L
     . have HB:=qH (show fbad (G6 none (fs.take k)) f=2 by unfold fbad;rw[qB (by simp[<- HIW.o]),qF (by have:=HL.o;omega)]);have HE:=qH (show fchk fs=2 by rw[HR.o,ai0 HFK.o hno.out (by rw[HB.o];decide),HB.o]);have hq:(4000:Int)<L:=qO;clear hno HB;go_wp2_with fail;go_ret;exact⟨by rw[HE.o];rfl,HB2.o⟩
     .
      have hq:¬(4000:Int)<L:=qO;have HB:=qH (show fbad (G6 none (fs.take k)) f=match G6 none (fs.take k) with | none=>0 | some q=>if q<f.name then 0 else 6 by unfold fbad;rw[qB (by simp[<- HIW.o]),qB (by have:=HL.o;omega)];rfl);by_cases hk0:k=0
      . subst hk0;have HG:Hid (x9 none (fs.take 1)=0):=aq8 HFK.o hno.out (by rw[HB.o];rfl);clear hno HB;go_wp2_with fail;go_region
        all_goals go_wp2_with fail
        all_goals go_roundw
        case rel=>exact⟨1,qO,rfl,HB2.o.drew,HG⟩
        case measure=>simp[intOf];omega
      .
       obtain⟨m,rfl⟩:∃m,k=m+1:=⟨k-1,qO⟩;obtain⟨g,hg⟩:∃g,fs[m]?=some g:=⟨_,gEl (by have:=HN.o;omega)⟩;have hln:G6 none (fs.take (m+1))=some g.name:=aW2 hg;obtain⟨b',off',ab',cb',e0,hg0,hg1,_⟩:=HR2.o.at hg;injection e0 with e0;injection e0 with e1 e2;subst e1 e2;have hk1:(0:Int)<((m+1:Nat):Int):=qO;have Vk:((m+1:Nat):Int)-1=(m:Int):=qO;have hmN:m<N:=qO;have hls:=aL0 f.name g.name;have hes:=aH8 f.name g.name;rw[hln]at HB;simp only at HB;by_cases Cf:g.name<f.name
       . have HG:Hid (x9 none (fs.take (m+1+1))=0):=aq8 HFK.o hno.out (by rw[hln,HB.o,qF Cf]);have Rh:Op.bytesLess fx.toList (⟨g.name.toArray⟩:ByteArray).toList=false:=by rw[HFX.o,ByteArray.toList_eq,ByteArray.toList_eq];show Op.bytesLess f.name g.name=false;rw[hls];exact qG (fun h=>List.lt_irrefl _ (List.lt_trans Cf h))
         have hle2:(fx.toList==(⟨g.name.toArray⟩:ByteArray).toList)=false:=by rw[HFX.o,hes];exact qG (fun h=>List.lt_irrefl _ (h ▸ Cf))
         generalize (⟨g.name.toArray⟩:ByteArray)=gx at *;clear hno HB hls hes hln Cf hg hg1;go_wp2_with fail;go_quiet (fail);all_goals go_wp2_with fail
         all_goals go_roundw
         case rel=>exact⟨m+1+1,qO,by go_num,belowq HB2.o _,HG⟩
         case measure=>simp[intOf];omega
       .
        have HE:=qH (show fchk fs=6 by rw[HR.o,ai0 HFK.o hno.out (by rw[hln,HB.o,qB Cf];decide),hln,HB.o,qB Cf]);obtain⟨d1,hd1⟩:=qE (Op.bytesLess fx.toList (⟨g.name.toArray⟩:ByteArray).toList);obtain⟨d2,hd2⟩:=qE ((fx.toList==(⟨g.name.toArray⟩:ByteArray).toList));have hor:d1=true\/d2=true:=by
         rw[hd1,hd2,HFX.o,hes];by_cases hfg:f.name=g.name
         . exact .inr (qV hfg)
         . left;rw[ByteArray.toList_eq,ByteArray.toList_eq];show Op.bytesLess f.name g.name=true;rw[hls];have h3:f.name<=g.name:=List.not_lt.1 Cf;by_cases h:f.name<g.name
           . exact qV h
           . exact absurd (List.le_antisymm h3 (List.not_lt.1 h)) hfg
        generalize (⟨g.name.toArray⟩:ByteArray)=gx at *;clear hno HB hls hes hln Cf hg hg1;rcases hor with rfl | rfl
        . have hd1':=hd1.symm;clear hd1 hd2;go_wp2_with fail;go_quiet (fail);all_goals go_wp2_with fail
          all_goals go_ret
          all_goals exact⟨by rw[HE.o];rfl,belowq HB2.o _⟩
        . have hd2':=hd2.symm;clear hd1 hd2;go_wp2_with fail;go_quiet (fail);all_goals go_wp2_with fail
          all_goals go_ret
          all_goals exact⟨by rw[HE.o];rfl,belowq HB2.o _⟩
   .
    have HE:=qH (show fchk fs=0 by
     rw[HR.o]
     have e:=hno.out
     rw[qP (by have:=HN.o;omega)]at e
     exact e)
    clear hno;go_wp2_with fail;go_ret;exact⟨by rw[HE.o];rfl,Aa.o⟩
theorem bf8:∀(a b:qU),(Lib.compareBytes a b = -1/\a<b)\/(Lib.compareBytes a b=0/\a=b)\/(Lib.compareBytes a b=1/\b<a)
 | [],[]=>by simp[Lib.compareBytes]
 | [],_::_=>by simp[Lib.compareBytes]
 | _::_,[]=>by simp[Lib.compareBytes]
 | x::a,y::b=>by
  rw[Lib.compareBytes];by_cases h1:x<y
  . rw[qF h1];left;exact⟨rfl,zV.2 (.inl h1)⟩
  .
   rw[qB h1];by_cases h2:y<x
   . rw[qF h2];right;right;exact⟨rfl,zV.2 (.inl h2)⟩
   . rw[qB h2];have e:x=y:=UInt8.le_antisymm (UInt8.not_lt.1 h2) (UInt8.not_lt.1 h1);subst e;rcases bf8 a b with⟨h,h'⟩|⟨h,h'⟩|⟨h,h'⟩
     . exact .inl ⟨h,zV.2 (.inr ⟨rfl,h'⟩)⟩
     . exact .inr (.inl ⟨h,by rw[h']⟩)
     . exact .inr (.inr ⟨h,zV.2 (.inr ⟨rfl,h'⟩)⟩)
theorem cmp_neg(a b:qU):Lib.compareBytes a b<0 ↔ a<b:=by
 rcases bf8 a b with⟨h,h'⟩|⟨h,h'⟩|⟨h,h'⟩
 . rw[h];simp[h']
 . rw[h,h'];simp
 . rw[h];have:¬a<b:=fun x=>List.lt_irrefl _ (List.lt_trans x h');simp[this]
theorem bW2(a b:qU):Lib.compareBytes a b=0 ↔ a=b:=by
 rcases bf8 a b with⟨h,h'⟩|⟨h,h'⟩|⟨h,h'⟩
 . rw[h];have:¬a=b:=fun x=>List.lt_irrefl _ (x ▸ h');simp[this]
 . rw[h,h'];simp
 . rw[h];have:¬a=b:=fun x=>List.lt_irrefl _ (x ▸ h');simp[this]
theorem bp0(f:qU)(vb:Value)(ab:Option Addr)(nb cb:Nat)(n:qU)(w:World):
 Calls prog 224 #[.agg #[.string ⟨f.toArray⟩,.slice ab nb cb],.string ⟨n.toArray⟩] w fun e w'=>e=.returned (.int .i64 (Lib.compareBytes f n))/\Bq w w':=by have hC:∀W:World,Calls prog 225 #[.string ⟨f.toArray⟩,.string ⟨n.toArray⟩] W fun e w'=>e=.returned (.int .i64 (Lib.compareBytes f n))/\w'=W:=fun W=>Tryz.strings_Compare ⟨f.toArray⟩ ⟨n.toArray⟩ W;have HC:Hid _:=hC;generalize Lib.compareBytes f n=r,(⟨f.toArray⟩:ByteArray)=fx,(⟨n.toArray⟩:ByteArray)=nx at *;clear hC;go_enter func224,ntmps224;go_wp2_with fail;refine qD (HC.o _) ?_;rintro e w2⟨rfl,rfl⟩;go_wp2_with fail;go_ret;exact⟨rfl,ac1⟩
theorem bz2(ao:Option Addr)(cap:Nat)(fs:List SFile)(n:qU)(w:World)(hf:o8 w (.slice ao fs.length cap) fs)(hr:x9 none fs=0)(h12:fs.length<=12):
 Calls prog 223 #[.slice ao fs.length cap,.string ⟨n.toArray⟩,.func (.func 224) #[] #[]] w fun e w'=>e=.returned (.tuple #[.int .i64 (T8 fs n),.bool (I7 fs n)])/\Bq w w':=by
 have HF:=qH hf;have HRI:=qH hr;have Vw:=bw5 fs n;obtain⟨N,hN⟩:=qE fs.length;have HN:=qH hN;obtain⟨p,hp⟩:=qE (T8 fs n);have HP:=qH hp;rw[<- hN]at HF h12 Vw ⊢;rw[<- hp]at Vw ⊢;obtain⟨nx,hnx⟩:=qE (⟨n.toArray⟩:ByteArray);have HNX:=qH hnx;rw[<- hnx];clear hf hr hN hp hnx;go_enter func223,ntmps223;go_wp2_with fail;go_loopw [9,10] (fun s9 s10 wr=>∃lo hi:Nat,s9=.int .i64 lo/\s10=.int .i64 hi/\lo<=p/\p<=hi/\hi<=N/\Hid (Bq w wr)) (fun s9 s10 _=>(intOf s10).toNat-(intOf s9).toNat)
 case atStart=>exact⟨0,N,rfl,rfl,qM _,Vw,qA _,Below.refl _ _⟩
 case round=>
  obtain⟨lo,hi,rfl,rfl,hlp,hph,hhN,Aa⟩:=hrel;by_cases hlt:lo<hi
  .
   obtain⟨h,hh⟩:=qE ((lo+hi) / 2);have hlh:lo<=h:=qO;have hhh:h<hi:=qO;obtain⟨f,hfk⟩:∃f,fs[h]?=some f:=⟨_,gEl (by have:=HN.o;omega)⟩;have hpi:=bE6 (n:=n) HRI.o hfk;rw[<- HP.o]at hpi;obtain⟨b,off,ab,cb,rfl,hc0,hc1,hrr⟩:=(o8.below HF.o Aa.o).at hfk;have HC:Hid _:=fun(W:World)=>bp0 f.name (.int .i64 0) ab f.b.length cb n W;rw[<- HNX.o]at HC;have hcn:=cmp_neg f.name n;generalize Lib.compareBytes f.name n=r,(⟨f.name.toArray⟩:ByteArray)=fx,f.b.length=L at *;clear hfk hrr;subst hh;by_cases hpp:(lo+hi) / 2<p
   . have hr0:r<0:=hcn.2 (hpi.2 hpp);clear hcn hpi;go_wp2_with fail;refine qD (HC.o _) ?_;rintro e w3⟨rfl,hb3⟩;have HB3:=qT Aa hb3;clear hb3 HC hc0 hc1;go_wp2_with fail;go_roundw
     case rel=>exact⟨(lo+hi) / 2+1,hi,by rw[show ((lo:Int)+(hi:Int)) / 2+1=(((lo+hi) / 2+1:Nat):Int) by omega],rfl,qO,hph,hhN,HB3⟩
     case measure=>simp[intOf];omega
   . have hr0:¬r<0:=fun x=>hpp (hpi.1 (hcn.1 x));clear hcn hpi;go_wp2_with fail;refine qD (HC.o _) ?_;rintro e w3⟨rfl,hb3⟩;have HB3:=qT Aa hb3;clear hb3 HC hc0 hc1;go_wp2_with fail;go_roundw
     case rel=>exact⟨lo,(lo+hi) / 2,rfl,by rw[show ((lo:Int)+(hi:Int)) / 2=(((lo+hi) / 2:Nat):Int) by omega],hlp,qO,qO,HB3⟩
     case measure=>simp[intOf];omega
  .
   obtain rfl:lo=p:=qO;obtain rfl:hi=lo:=qO;by_cases hlN:hi<N
   . obtain⟨f,hfk⟩:∃f,fs[hi]?=some f:=⟨_,gEl (by have:=HN.o;omega)⟩;have hth:=bw6 (l:=fs) (n:=n) (by rw[<- HP.o];exact hfk);obtain⟨b,off,ab,cb,rfl,hc0,hc1,hrr⟩:=(o8.below HF.o Aa.o).at hfk;have HC:Hid _:=fun(W:World)=>bp0 f.name (.int .i64 0) ab f.b.length cb n W;rw[<- HNX.o]at HC;have hcz:=bW2 f.name n;have HTH:=qH hth;generalize Lib.compareBytes f.name n=r,(⟨f.name.toArray⟩:ByteArray)=fx,f.b.length=L at *;clear hfk hrr hth;by_cases hfn:f.name=n
     . have hr0:r=0:=hcz.2 hfn;have HT:=qH (show I7 fs n=true by rw[HTH.o];exact qV hfn);subst hr0;clear hcz HTH hfn;go_wp2_with fail;refine qD (HC.o _) ?_;rintro e w3⟨rfl,hb3⟩;have HB3:=qT Aa hb3;clear hb3 HC hc0 hc1;go_wp2_with fail;go_ret2;exact⟨by rw[HT.o];rfl,HB3.o⟩
     . have hr0:¬r=0:=fun x=>hfn (hcz.1 x);have HT:=qH (show I7 fs n=false by rw[HTH.o];exact qG hfn);clear hcz HTH hfn;go_wp2_with fail;refine qD (HC.o _) ?_;rintro e w3⟨rfl,hb3⟩;have HB3:=qT Aa hb3;clear hb3 HC hc0 hc1;go_wp2_with fail;go_ret2;exact⟨by rw[HT.o,show false=(r==0) by simp[hr0]];rfl,HB3.o⟩
   . have HT:Hid (I7 fs n=false):=bw7 (by rw[<- HP.o,<- HN.o];omega);go_wp2_with fail;go_ret2;exact⟨by rw[HT.o];rfl,Aa.o⟩
theorem cc2(ao:Option Addr)(cap:Nat)(fs:List SFile)(n:qU)(w:World)(hf:o8 w (.slice ao fs.length cap) fs)(hr:x9 none fs=0)(h12:fs.length<=12):
 Calls prog 194 #[.slice ao fs.length cap,.string ⟨n.toArray⟩] w fun e w'=>e=.returned (.tuple #[.int .i64 (T8 fs n),.bool (I7 fs n)])/\Bq w w':=by have HB:Hid _:=bz2 ao cap fs n w hf hr h12;generalize T8 fs n=p,I7 fs n=t,fs.length=N,(⟨n.toArray⟩:ByteArray)=nx at *;clear hf hr;go_enter func194,ntmps194;go_wp2_with fail;refine qD HB.o ?_;rintro e w1⟨rfl,hb1⟩;have HB1:=qH hb1;clear hb1 HB;go_wp2_with fail;go_ret2;exact⟨rfl,HB1.o⟩
theorem cc3:(prog.info? 5).map (fun i=>(i.zero,i.size,i.bytes))=some (some (.int .u8 0),1,1):=qQ
theorem aF3(w:World):Reads w (.slice none 0 0) 0 []:=⟨rfl,none,0,rfl,qA _,by simp[maxLen],fun h=>absurd rfl h⟩
theorem cg6:∀u∈bs.map U,u.oneCell'=true:=by intro u hu;obtain⟨x,_,rfl⟩:=xA.1 hu;rfl
theorem bM9(ab:Option Addr)(cb:Nat)(bs:qU)(w:World)(hr:Reads w (.slice ab bs.length cb) bs.length (bs.map U))(hl:bs.length<=100000):
 Calls prog 70 #[.slice ab bs.length cb] w fun e w'=>∃ar cr,e=.returned (.slice ar bs.length cr)/\Reads w' (.slice ar bs.length cr) bs.length (bs.map U)/\(∀a,ar=some a->w.heap.size<=a.block)/\Bq w w':=by
 obtain⟨i0,hi,hi0,hi1,hi2⟩:=info_parts cc3;have hq:∀(w:World)(a:Option Addr)(n c n' c':Nat),(binOp .eql 28 (.slice a n c) (.slice none n' c')).run prog w=.ok (.bool a.isNone) w:=fun w a n c n' c'=>Lib.run_eql_slice_nil w _ _ a n c n' c' underlying28;obtain⟨h1,ao,cap,e,h2,h3,h4⟩:=hr;injection e with e1 e2 e3;subst e1 e3
 cases ab with
 | none=>
  have h0:bs=[]:=by
   cases bs with
   | nil=>rfl
   | cons x r=>obtain⟨b,off,e,_⟩:=h4 (by simp);cases e
  subst h0;clear h4 h1;go_enter func70,ntmps70;go_wp2_with fail;go_ret;exact⟨none,0,rfl,aF3 _,(fun a h=>by cases h),Below.refl _ _⟩
 | some a=>
  have Ac:∀j u,(bs.map U)[j]?=some u->w.cell? (a.add j)=some u:=by
   intro j u hj;have:0<bs.length:=by have:=(gSm hj).1;simp at this;omega
   obtain⟨b,off,e,hc⟩:=h4 qO;injection e with e;subst e;rw[addF];exact hc j u hj
  have HC:Hid _:=Ac;obtain⟨xs,hxs⟩:=qE (bs.map U);have HX:=qH hxs;obtain⟨N,hN⟩:=qE bs.length;have HN:=qH hN;have HXL:=qH (show xs.length=N by rw[hxs,hN,qS]);rw[<- hxs]at HC;rw[<- hxs,<- hN];rw[<- hN]at hl;clear h4 h1 Ac hxs hN h2 h3;go_enter func70,ntmps70;go_wp2_with (at_builtin;refine xB _ rfl _ _ 28 rfl w.heap.size 5 i0 (.int .u8 0) 1 1 underlying28 hi hi0 hi1 hi2 rfl (by decide) _ _ _ rfl (World.ownsRow_made w #[] 0 (qA _) (qM _) rfl) a N cb xs rfl ?qc1 ?qc2 ?qc3 ?qc4 ?qc5 ?qc6 ?_)
  case qc1=>first|(rw[HXL.o];done)|(rw[HXL.o,zI])
  case qc2=>intro j u hj;have h:=HC.o j u hj;rw[ac1.cell (bLt w _ h)];exact h
  case qc3=>rw[HX.o];exact cg6
  case qc4=>unfold maxLen;omega
  case qc5=>omega
  all_goals try (case qc6=>simp)
  .
   intro v' w1 Ab hg Dt;have HB:Hid (Bq w w1):=ac1.grown hg (by simp) (fun k hk=>by injection hk with hk;subst hk;exact qA _);have Ag:w1.ownsRow w.heap.size 5 1 v' N xs:=by simpa using Ab
   have HO:=qH Ag
   have HR:Hid (∃ar cr,v'=.slice ar N cr/\∀a,ar=some a->w.heap.size<=a.block):=(show ∃ar cr,v'=.slice ar N cr/\∀a,ar=some a->w.heap.size<=a.block by
    rcases Ag.2 with⟨rfl,h0⟩|⟨g,cap,cur,rfl,hb,_⟩
    . exact⟨none,0,by rw[h0],fun a h=>by cases h⟩
    . exact⟨_,cap,rfl,fun a h=>by injection h with h;subst h;exact hb⟩)
   clear Ab hg Dt Ag;go_wp2;go_ret;obtain⟨ar,cr,hv,hn⟩:=HR.o;refine⟨ar,cr,by rw[<- hv];rfl,?_,hn,HB.o⟩;rw[<- hv];exact Reads.of_owns HO.o
def getS(fs:List SFile)(n:qU):qU × Int:=if fchk fs=0 then (E0 fs n,0) else ([],fchk fs)
def bW4(w:World)(res:qU × Int)(e:Ending)(w':World):Prop:=∃ar cr,e=.returned (.tuple #[.slice ar res.1.length cr,.int .i64 res.2])/\Reads w' (.slice ar res.1.length cr) res.1.length (res.1.map U)/\Bq w w'
theorem aF4{w':World}(h:res=([],r))(he:e=.returned (.tuple #[.slice none 0 0,.int .i64 r]))(hb:Bq w w'):bW4 w res e w':=by subst h;exact⟨none,0,he,aF3 w',hb⟩
theorem cf1(ao:Option Addr)(cap:Nat)(fs:List SFile)(n:qU)(w:World)(hf:o8 w (.slice ao fs.length cap) fs)(Ad:∀f∈fs,al0 f):
 Calls prog 145 #[.slice ao fs.length cap,.string ⟨n.toArray⟩] w fun e w'=>bW4 w (getS fs n) e w':=by
 have hC:=aD4 ao cap fs w hf Ad;have HC:Hid _:=hC;have HF:=qH hf;obtain⟨N,hN⟩:=qE fs.length;have HN:=qH hN;obtain⟨nx,hnx⟩:=qE (⟨n.toArray⟩:ByteArray);have HNX:=qH hnx;obtain⟨ck,hck⟩:=qE (fchk fs);have HCK:=qH hck;rw[<- hN,<- hck]at HC;rw[<- hN,<- hnx];rw[<- hN]at HF;clear hf Ad hC hN hnx hck;by_cases h0:ck=0
 .
  subst h0;obtain⟨Zy,hri⟩:=S7 HCK.o.symm;have HRI:Hid _:=hri;have HFI:Hid _:=fun(W:World)(hb:Bq w W)=>cc2 ao cap fs n W (by rw[<- HN.o];exact HF.o.below hb) hri Zy;rw[<- HN.o,<- HNX.o]at HFI;have HGS:=qH (show getS fs n=(E0 fs n,0) by unfold getS;rw[qF HCK.o.symm]);rw[<- HN.o]at Zy;have hpl:=bw5 fs n;obtain⟨p,hp⟩:=qE (T8 fs n);have HP:=qH hp;obtain⟨t,ht⟩:=qE (I7 fs n);have HT:=qH ht;rw[<- hp,<- ht]at HFI;rw[<- hp,<- HN.o]at hpl;clear hri hp ht;go_enter func145,ntmps145;go_wp2_with fail;refine qD HC.o ?_;rintro e w1⟨rfl,hb1⟩;have HB1:=qH hb1;clear hb1 HC;go_wp2_with fail;have hQ:=HFI.o w1 HB1.o;refine qD hQ ?_;rintro e w2⟨rfl,hb2⟩;have HB2:=qT HB1 hb2;clear hb2 hQ HFI HB1
  cases t with
  | false=>have HGN:=qH (show getS fs n=([],0) by rw[HGS.o,bl8 HRI.o HT.o.symm]);go_wp2_with fail;go_ret2;exact aF4 HGN.o rfl HB2.o
  | true=>
   obtain⟨f,hfk,hfn⟩:=bI5 HT.o.symm;have HGF:=qH (show getS fs n=(f.b,0) by rw[HGS.o,aK9 HRI.o HT.o.symm hfk]);rw[<- HP.o]at hfk;have hpN:p<N:=by have:=(gSm hfk).1;rw[HN.o];exact this
   obtain⟨b,off,ab,cb,rfl,hc0,hc1,hrr⟩:=(o8.below HF.o HB2.o).at hfk;have hb4:=(U2 HRI.o f (mGt hfk)).2;have HQ:Hid _:=fun(W:World)(hb:Bq w2 W)=>bM9 ab cb f.b W (Reads.below hrr hb) qO;obtain⟨L,hL⟩:=qE f.b.length;have HL:=qH hL;rw[<- hL]at hc1 HQ;generalize (⟨f.name.toArray⟩:ByteArray)=fx at *;clear hfk hfn hrr hb4 hL;go_wp2_with fail;have hQ:=HQ.o w2 (Below.refl _ _);refine qD hQ ?_;rintro e w3⟨ar,cr,rfl,Oq,Bi,hb3⟩;have HB3:=qT HB2 hb3;have HR3:Hid _:=Oq;clear hQ HQ Oq Bi hb3;go_wp2_with fail;go_ret2;refine⟨ar,cr,?_,?_,HB3.o⟩
   . rw[HGF.o,<- HL.o];rfl
   . rw[HGF.o];have:=HR3.o;rw[HL.o]at this;exact this
 . have HGS:=qH (show getS fs n=([],ck) by unfold getS;rw[<- HCK.o,qB h0]);go_enter func145,ntmps145;go_wp2_with fail;refine qD HC.o ?_;rintro e w1⟨rfl,hb1⟩;have HB1:=qH hb1;clear hb1 HC;go_wp2_with fail;go_ret2;exact aF4 HGS.o rfl HB1.o
def Q0(w:World)(outs:qL)(e:Ending)(w':World):Prop:=
 ∃ar cr us,e=.returned (.tuple #[.slice ar outs.length cr,.int .i64 0])/\w'.ownsRow w.heap.size 28 1 (.slice ar outs.length cr) outs.length us/\(∀(j:Nat) b,outs[j]?=some b->∃u,us[j]?=some u/\Reads w' u b.length (b.map U)/\NewV w.heap.size u)/\Bq w w'
theorem ao9{W:World}(hb:Bq w W)(hu:Reads W u b.length (b.map U))(hn:NewV w.heap.size u):
 Q0 w [b] (.returned (.tuple #[.slice (some ⟨W.heap.size,0,none⟩) 1 1,.int .i64 0])) (W.alloc (.cells #[u] 28)):=by
 refine⟨some ⟨W.heap.size,0,none⟩,1,[u],rfl,am9 (qJ W _) rfl hb.size (by simp),fun j c hj=>?_,hb.alloc hb.size _⟩
 cases j with
 | zero=>simp at hj;subst hj;exact⟨u,rfl,hu.below g9,hn⟩
 | succ j=>simp at hj
theorem bN0(h:isWord s=true):s.length<=9223372036854775807:=by unfold isWord at h;simp only[zX,zh]at h;omega
theorem bp1(h:n.kind=1)(fs:List SFile)(ins:qL):j6 n fs ins=[ended (lines (E0 fs n.file))]:=by unfold j6;rw[qF h]
theorem bp2(h:n.kind=2)(fs:List SFile)(ins:qL):j6 n fs ins=(List.range n.wide.toNat).map (partOf (ins.head?.getD []) n.wide.toNat):=by unfold j6;rw[qB qO,qF h]
theorem aw6(h:n.kind=3)(fs:List SFile)(ins:qL):j6 n fs ins=[ended (made n.c (lines (ins.head?.getD [])))]:=by unfold j6;rw[qB qO,qB qO,qF h]
theorem aY4(h:n.kind=4)(fs:List SFile)(ins:qL):j6 n fs ins=[ended (joined n.how n.c (ins.map lines))]:=by unfold j6;rw[qB qO,qB qO,qB qO,qF h]
theorem bN1(h:n.kind=5)(fs:List SFile)(ins:qL):j6 n fs ins=[]:=by unfold j6;rw[qB qO,qB qO,qB qO,qB qO]
theorem bN2(n:SNode)(ai ao:Option Addr)(ni ci cap:Nat)(fs:List SFile)(v:Value)(ins:qL)(w:World)(hk:n.kind=5)(hv:RList w v U ins):
 Calls prog 122 #[x8 n ai ni ci,.slice ao fs.length cap,v] w fun e w'=>Q0 w (j6 n fs ins) e w':=by rw[bN1 hk];unfold x8;rw[hk];obtain⟨av,cv,rfl,_,_⟩:=hv.shape;generalize (⟨n.file.toArray⟩:ByteArray)=fx;generalize (⟨n.c.word.toArray⟩:ByteArray)=wx0;generalize n.c.kind=ck;generalize n.c.n=cn;generalize n.how=hw;generalize n.wide=wd;clear hv;go_enter func122,ntmps122;go_wp2_with fail;go_ret2;exact⟨none,0,[],rfl,World.ownsRow_nil _ _ _ _,fun j b hj=>by simp at hj,g9⟩
theorem bp3(n:SNode)(ai ao:Option Addr)(ni ci cap:Nat)(fs:List SFile)(v:Value)(ins:qL)(w:World)(hk:n.kind=1)(hv:RList w v U ins)(hf:o8 w (.slice ao fs.length cap) fs)(hfc:fchk fs=0):
 Calls prog 122 #[x8 n ai ni ci,.slice ao fs.length cap,v] w fun e w'=>Q0 w (j6 n fs ins) e w':=by
 rw[bp1 hk];have hlen:(E0 fs n.file).length<=4000:=by
  unfold E0
  cases hq:fs.find? (fun f=>f.name==n.file) with
  | none=>simp
  | some f=>exact (U2 (S7 hfc).2 f (List.mem_of_find?_eq_some hq)).2
 have hel:=E8 (E0 fs n.file);have HG:Hid _:=fun(W:World)(h:Bq w W)=>cf1 ao cap fs n.file W (hf.below h) (fun f hf=>by have:=(U2 (S7 hfc).2 f hf).1;exact bN0 this);have hgr:getS fs n.file=(E0 fs n.file,0):=by unfold getS;rw[qF hfc]
 rw[hgr]at HG;unfold x8;rw[hk];obtain⟨av,cv,rfl,_,_⟩:=hv.shape;obtain⟨N,hN⟩:=qE fs.length;rw[<- hN]at HG;rw[<- hN];generalize E0 fs n.file=fb,(⟨n.file.toArray⟩:ByteArray)=fx,(⟨n.c.word.toArray⟩:ByteArray)=wx0,n.c.kind=ck,n.c.n=cn,n.how=hw,n.wide=wd at *;clear hv hf hfc hgr hN;go_enter func122,ntmps122;go_wp2_with fail;have hQ:=HG.o _ (g9 (w:=w) (o:=.cells #[.int .i64 1,.string fx,.int .i64 ck,.string wx0,.int .i64 cn,.int .i64 hw,.int .i64 wd,.slice ai ni ci] 57));refine qD hQ ?_;rintro e w1⟨a1,c1,rfl,hr1,hb1⟩;have HB1:Hid (Bq w w1):=g9.trans (hb1.mono (by simp));have HA:Hid _:=aB5 _ fb w1 hr1 qO;simp only;generalize fb.length=fl at *;clear hQ hr1 hb1 HG;go_wp2_with fail;refine qD HA.o ?_;rintro e w2⟨r2,rfl,ho2,hb2⟩;have HB2:=qT HB1 hb2;have HE:Hid _:=af2 r2 (lines fb) w2 (Reads.of_owns ho2) qO;clear ho2 hb2 HA;go_wp2_with fail;refine qD HE.o ?_;rintro e w3⟨r3,rfl,ho3,hb3⟩;have HB3:=qT HB2 hb3;have HR3:Hid (Reads w3 r3 (ended (lines fb)).length ((ended (lines fb)).map U)):=Reads.of_owns ho3;have HN3:Hid (NewV w.heap.size r3):=(aD3 ho3).mono HB2.o.size;obtain⟨a3,c3,rfl,_,_⟩:=HR3.o.shape;obtain⟨l3,hl3⟩:=qE ((ended (lines fb)).length);rw[<- hl3];clear ho3 hb3 HE;go_wp2_with fail;go_ret2;subst hl3;exact ao9 HB3.o HR3.o HN3.o
end Go.Proofs.YtmejdflmcikkdaaGreatDoor
