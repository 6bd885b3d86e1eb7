/- Facts of no function that walks over files use, and more. -/
import Derived.Test.YtllgglolcgdehaaGreatDoorSAb
import Derived.Lib.Bytealg
import Derived.Laws.Shifts
import Derived.Lib.SliceRun
import Derived.Test.YtllgglolcgdehaaGreatDoorSa03
set_option linter.all false
set_option maxRecDepth 100000
set_option maxHeartbeats 16000000
namespace Go.Proofs.YtllgglolcgdehaaGreatDoor
open Go.RowKit Go.Gs Tryz
theorem C5{w:World}{o:Obj}:Bq w (w.alloc o):=(qI _ w).alloc (qB _) o
theorem U9{w:World}{ao:Option Addr}{n cap:Nat}{xs:List Value}(h:Reads w (.slice ao n cap) n xs):n<=9223372036854775807:=by obtain⟨_,c,e,h1,h2⟩:=h.shape;unfold maxLen at h2;omega
theorem ay6(a b:List UInt8):((⟨a.toArray⟩:ByteArray).toList==(⟨b.toArray⟩:ByteArray).toList)=decide (a=b):=by
 by_cases h:a=b
 . subst h;simp
 . simp[h]
theorem ay7:∀(x y:List UInt8),Op.bytesLess x y=decide (x<y)
 | [],[]=>by simp[Op.bytesLess]
 | _::_,[]=>by simp[Op.bytesLess]
 | [],_::_=>by simp[Op.bytesLess]
 | a::x,b::y=>by
  rw[Op.bytesLess,ay7 x y]
  simp only[zY]
  by_cases h1:a<b <;> by_cases h2:a=b <;> by_cases h3:x<y <;> simp[h1,h2,h3]
theorem aN6{w w':World}{a b:Value}{t:TypeId}(h:Below (w.alloc (.cells #[a,b] t)).heap.size (w.alloc (.cells #[a,b] t)) w'):w'.cell? ⟨w.heap.size,0,none⟩=some a/\w'.cell? ⟨w.heap.size,1,none⟩=some b:=by have hk:w'.heap[w.heap.size]? = some (.cells #[a,b] t (0,0)):=(h.block _ (by simp)).trans (qN w _);simp[World.cell?,hk]
theorem bN1{fs:List SFile}{n:List UInt8}:∀{k:Nat}{f:SFile},fs[k]? = some f->f.name=n->(∀g∈fs.take k,g.name≠n)->q8 fs n=f.b:=by
 induction fs with
 | nil=>intro k f h;simp at h
 | cons a r ih=>
  intro k f h hf hno
  cases k with
  | zero=>
   simp at h;subst h
   unfold q8
   simp[hf]
  | succ k=>
   have hne:a.name≠n:=hno a (by simp)
   have:=ih (k:=k) (by simpa using h) hf (fun g hg=>hno g (by simp[hg]))
   rw[<- this]
   unfold q8
   rw[List.find?_cons_of_neg (by simpa using hne)]
theorem bN2{fs:List SFile}{n:List UInt8}(h:∀g∈fs,g.name≠n):q8 fs n=[]:=by unfold q8;rw[zq.2 (fun g hg=>by simpa using h g hg)];rfl
def F3:Option (List UInt8)->List SFile->Option (List UInt8)
 | q,[]=>q
 | _,g::a=>F3 (some g.name) a
theorem aw2:∀(a:List SFile)(q:Option (List UInt8))(f:SFile)(r:List SFile),j8 q a=0->j8 q (a++f::r)=if fbad (F3 q a) f=0 then j8 (some f.name) r else fbad (F3 q a) f
 | [],q,f,r,_=>rfl
 | g::a,q,f,r,h=>by
  rw[j8]at h
  split at h
  . rename_i h1
    rw[zG,j8,qF h1,aw2 a _ f r h]
    rfl
  . rename_i h1;exact absurd h h1
theorem aX8:∀(a:List SFile)(q:Option (List UInt8))(g:SFile),F3 q (a++[g])=some g.name
 | [],q,g=>rfl
 | x::a,q,g=>by rw[zG,F3];exact aX8 a _ g
theorem aY0{fs:List SFile}{k:Nat}{g:SFile}(h:fs[k]? = some g):F3 none (fs.take (k+1))=some g.name:=by rw[qX,h];exact aX8 _ _ _
theorem ca0{fs:List SFile}{k:Nat}{f:SFile}(h:fs[k]? = some f):fs=fs.take k++f::fs.drop (k+1):=by obtain⟨hk,e⟩:=gSm h;rw[<- e,<- qh hk,qk]
theorem ai1{fs:List SFile}{k:Nat}{f:SFile}(h:fs[k]? = some f)(h0:j8 none (fs.take k)=0)(hb:fbad (F3 none (fs.take k)) f≠0):j8 none fs=fbad (F3 none (fs.take k)) f:=by have e:=aw2 (fs.take k) none f (fs.drop (k+1)) h0;rw[<- ca0 h,qA hb]at e;exact e
theorem ar2{fs:List SFile}{k:Nat}{f:SFile}(h:fs[k]? = some f)(h0:j8 none (fs.take k)=0)(hb:fbad (F3 none (fs.take k)) f=0):j8 none (fs.take (k+1))=0:=by rw[qX,h];have e:=aw2 (fs.take k) none f [] h0;rw[qF hb]at e;exact e
theorem belowq{B:Nat}{a w:World}(h:Below B a w)(q:Nat):Below B a (w.drewN q):=⟨h.os,h.tape,h.output,h.size,h.block⟩
theorem bo2{fs:List SFile}(h:¬12<fs.length):fchk fs=j8 none fs:=by unfold fchk;rw[qA h]
theorem ca1{α:Type}{a b:List α}{k:Nat}{x y:α}(ha:a[k]? = some x)(hb:b[k]? = some y)(h:x≠y):a≠b:=by intro e;rw[e,hb]at ha;injection ha with ha;exact h ha.symm
theorem bo3{α:Type}{a b:List α}{k:Nat}{x:α}(h:a.take k=b.take k)(ha:a[k]? = some x)(hb:b[k]? = some x):a.take (k+1)=b.take (k+1):=by rw[qX,qX,h,ha,hb]
theorem aN7{w:World}{ao:Option Addr}{n cap:Nat}{bs:List UInt8}(h:Reads w (.slice ao n cap) n (bs.map U)){k:Nat}{c:UInt8}(hk:bs[k]? = some c):
 ∃b off,ao=some ⟨b,off,none⟩/\w.cell? ⟨b,off+k,none⟩=some (.int .u8 (c.toNat:Int)):=by obtain⟨h1,ao',cap',e,_,_,h5⟩:=h;injection e with e1 e2 e3;subst e1;obtain⟨hkl,_⟩:=gSm hk;rw[qM]at h1;obtain⟨b,off,hao,hc⟩:=h5 (by omega);exact⟨b,off,hao,hc k (U c) (by rw[qQ,hk];rfl)⟩
theorem ac8{w:World}{o p:Obj}:Bq w ((w.alloc o).alloc p):=(C5 (w:=w) (o:=o)).alloc (by simp) p
theorem an8:(prog.info? 83).map (fun i=>(i.zero,i.size,i.bytes))=some (some (.agg #[.string ⟨#[]⟩,.slice none 0 0]),2,40):=by kernel_rfl
theorem addF{b off j:Nat}:(⟨b,off,none⟩:Addr).add j=⟨b,off+j,none⟩:=by unfold Addr.add;split <;> simp_all
theorem aY1{fs:List SFile}{n b:List UInt8}(h:isWord n=false):putS fs n b=([],1):=by unfold putS;rw[qF h]
theorem aY2{fs:List SFile}{n b:List UInt8}(h:isWord n=true)(hb:4000<b.length):putS fs n b=([],2):=by unfold putS;rw[qA (by simp[h]),qF hb]
theorem aY3{fs:List SFile}{n b:List UInt8}(h:isWord n=true)(hb:¬4000<b.length)(hm:12<(putF fs n b).length):putS fs n b=([],2):=by unfold putS;rw[qA (by simp[h]),qA hb,qF hm]
theorem bf1{fs:List SFile}{n b:List UInt8}(h:isWord n=true)(hb:¬4000<b.length)(hm:¬12<(putF fs n b).length):putS fs n b=(putF fs n b,0):=by unfold putS;rw[qA (by simp[h]),qA hb,qA hm]
theorem bA8(w:World):j6 w (.slice none 0 0) []:=⟨none,0,rfl,qB _,by simp[maxLen],fun h=>absurd rfl h⟩
def ak3(w:World)(res:List SFile × Int)(e:Ending)(w':World):Prop:=∃ar cr,e=.returned (.tuple #[.slice ar res.1.length cr,.int .i64 res.2])/\j6 w' (.slice ar res.1.length cr) res.1/\Bq w w'
theorem E2{w w':World}{res:List SFile × Int}{e:Ending}{r:Int}(h:res=([],r))(he:e=.returned (.tuple #[.slice none 0 0,.int .i64 r]))(hb:Bq w w'):ak3 w res e w':=by subst h;exact⟨none,0,he,bA8 w',hb⟩
theorem aD2{w w':World}{a b c:Value}{t:TypeId}(h:Below (w.alloc (.cells #[a,b,c] t)).heap.size (w.alloc (.cells #[a,b,c] t)) w'):w'.cell? ⟨w.heap.size,0,none⟩=some a/\w'.cell? ⟨w.heap.size,1,none⟩=some b/\w'.cell? ⟨w.heap.size,2,none⟩=some c:=by have hk:w'.heap[w.heap.size]? = some (.cells #[a,b,c] t (0,0)):=(h.block _ (by simp)).trans (qN w _);simp[World.cell?,hk]
theorem bo4(n:List UInt8)(W:World)(hn:n.length<=9223372036854775807)(iw:Bool)(h:isWord n=iw):
 Calls prog 103 #[.string ⟨n.toArray⟩] W fun e w'=>e=.returned (.bool iw)/\Bq W w':=by refine (ay0 n W hn).mono ?_;rintro e w'⟨rfl,rfl⟩;exact⟨by rw[h],qI _ _⟩
theorem ac0(ao:Option Addr)(cap:Nat)(fs:List SFile)(w:World)(hf:j6 w (.slice ao fs.length cap) fs)(Ad:∀f∈fs,M9 f):
 Calls prog 39 #[.slice ao fs.length cap] w fun e w'=>e=.returned (.int .i64 (fchk fs))/\Bq w w':=by
 have hle:=Y2 hf;have HF:=qH hf;have Db:Hid _:=Ad;obtain⟨N,hN⟩:=qE fs.length;have HN:=qH hN;have hN1:N<=9223372036854775807:=by omega
 rw[<- hN]at HF ⊢;by_cases Ey:12<N
 . have HR:=qH (show fchk fs=2 by unfold fchk;rw[qF (by omega)]);have hq:(12:Int)<N:=by omega
   clear hf Ad hle hN;go_enter Tryz.func39,Tryz.ntmps39;go_wp2_with fail;go_ret;exact⟨by rw[HR.out];rfl,qI _ _⟩
 .
  have HR:Hid (fchk fs=j8 none fs):=bo2 (by omega);have Sv:N<=12:=by omega
  clear hf Ad hle hN Ey hN1;go_enter Tryz.func39,Tryz.ntmps39;go_wp2_with fail;go_loopw [10] (fun i wr=>∃k:Nat,k<=N/\i=.int .i64 k/\Hid (Bq w wr)/\Hid (j8 none (fs.take k)=0)) (fun i _=>N-(intOf i).toNat)
  case atStart=>exact⟨0,qP _,rfl,qI _ _,(show _=_ from rfl)⟩
  case round=>
   obtain⟨k,hk,rfl,Aa,hno⟩:=hrel;by_cases hlt:k<N
   .
    obtain⟨f,hfk⟩:∃f,fs[k]? = some f:=⟨_,gEl (by have:=HN.out;omega)⟩;have HFK:=qH hfk;have HRk:Hid (j6 wr (.slice ao N cap) fs):=j6.below HF.out Aa.out;obtain⟨b,off,ab,cb,rfl,hc0,hc1,hr⟩:=HRk.out.at hfk;obtain⟨iw,hiw⟩:=qE (isWord f.name);have HIW:=qH hiw;have HW:Hid _:=fun(W:World)=>bo4 f.name W (Db.out f (mGt hfk)) iw hiw.symm;have hbl:=U9 hr;obtain⟨L,hL⟩:=qE f.b.length;have HL:=qH hL;rw[<- hL]at hc1 hbl;obtain⟨fx,hfx⟩:=qE (⟨f.name.toArray⟩:ByteArray);have HFX:=qH hfx;rw[<- hfx]at hc0 HW;clear hfk hr hiw hL hfx;go_wp2_with fail;have hQ:=HW.out (wr.alloc (.cells #[.string fx,.slice ab L cb] 83));refine qD hQ ?_;rintro e w2⟨rfl,hb2⟩;obtain⟨hx0,hx1⟩:=aN6 hb2;have HB2:Hid (Bq w w2):=(Aa.out.alloc Aa.out.size _).trans (hb2.mono (by simp;exact zk Aa.out.size))
    have HR2:Hid (j6 w2 (.slice (some ⟨b,off,none⟩) N cap) fs):=j6.below (j6.below HRk.out C5) hb2;clear hQ hb2 HW hc0 hc1
    cases iw with
    | false=>
     have HB:=qH (show fbad (F3 none (fs.take k)) f=1 by unfold fbad;rw[qF HIW.out.symm])
     have HE:=qH (show fchk fs=1 by rw[HR.out,ai1 HFK.out hno.out (by rw[HB.out];decide),HB.out])
     clear hno HB
     go_wp2_with fail
     go_ret
     exact⟨by rw[HE.out];rfl,HB2.out⟩
    | true=>
     by_cases hl4:4000<L
     . have HB:=qH (show fbad (F3 none (fs.take k)) f=2 by unfold fbad;rw[qA (by simp[<- HIW.out]),qF (by have:=HL.out;omega)])
       have HE:=qH (show fchk fs=2 by rw[HR.out,ai1 HFK.out hno.out (by rw[HB.out];decide),HB.out])
       have hq:(4000:Int)<L:=by omega
       clear hno HB
       go_wp2_with fail
       go_ret
       exact⟨by rw[HE.out];rfl,HB2.out⟩
     .
      have hq:¬(4000:Int)<L:=by omega
      have HB:=qH (show fbad (F3 none (fs.take k)) f=match F3 none (fs.take k) with | none=>0 | some q=>if q<f.name then 0 else 6 by unfold fbad;rw[qA (by simp[<- HIW.out]),qA (by have:=HL.out;omega)];rfl)
      by_cases hk0:k=0
      . subst hk0
        have HG:Hid (j8 none (fs.take 1)=0):=ar2 HFK.out hno.out (by rw[HB.out];rfl)
        clear hno HB
        go_wp2_with fail
        go_region
        all_goals go_wp2_with fail
        all_goals go_roundw
        case rel=>exact⟨1,by omega,rfl,HB2.out.drew,HG⟩
        case measure=>simp[intOf];omega
      .
       obtain⟨m,rfl⟩:∃m,k=m+1:=⟨k-1,by omega⟩
       obtain⟨g,hg⟩:∃g,fs[m]? = some g:=⟨_,gEl (by have:=HN.out;omega)⟩
       have hln:F3 none (fs.take (m+1))=some g.name:=aY0 hg
       obtain⟨b',off',ab',cb',e0,hg0,hg1,_⟩:=HR2.out.at hg
       injection e0 with e0
       injection e0 with e1 e2
       subst e1 e2
       have hk1:(0:Int)<((m+1:Nat):Int):=by omega
       have Sz:((m+1:Nat):Int)-1=(m:Int):=by omega
       have hmN:m<N:=by omega
       have hls:=ay7 f.name g.name
       have hes:=ay6 f.name g.name
       rw[hln]at HB
       simp only at HB
       by_cases Di:g.name<f.name
       .
        have HG:Hid (j8 none (fs.take (m+1+1))=0):=ar2 HFK.out hno.out (by rw[hln,HB.out,qF Di])
        have Oo:Op.bytesLess fx.toList (⟨g.name.toArray⟩:ByteArray).toList=false:=by
         rw[HFX.out,ByteArray.toList_eq,ByteArray.toList_eq]
         show Op.bytesLess f.name g.name=false
         rw[hls]
         exact qU (fun h=>zN _ (zd Di h))
        have Fo:(fx.toList==(⟨g.name.toArray⟩:ByteArray).toList)=false:=by rw[HFX.out,hes];exact qU (fun h=>zN _ (h ▸ Di))
        generalize (⟨g.name.toArray⟩:ByteArray)=gx at *
        clear hno HB hls hes hln Di hg hg1
        go_wp2_with fail
        go_quiet (fail)
        all_goals go_wp2_with fail
        all_goals go_roundw
        case rel=>exact⟨m+1+1,by omega,by go_num,belowq HB2.out _,HG⟩
        case measure=>simp[intOf];omega
       .
        have HE:=qH (show fchk fs=6 by rw[HR.out,ai1 HFK.out hno.out (by rw[hln,HB.out,qA Di];decide),hln,HB.out,qA Di])
        obtain⟨d1,hd1⟩:=qE (Op.bytesLess fx.toList (⟨g.name.toArray⟩:ByteArray).toList)
        obtain⟨d2,hd2⟩:=qE ((fx.toList==(⟨g.name.toArray⟩:ByteArray).toList))
        have hor:d1=true\/d2=true:=by
         rw[hd1,hd2,HFX.out,hes]
         by_cases hfg:f.name=g.name
         . exact .inr (qd hfg)
         . left
           rw[ByteArray.toList_eq,ByteArray.toList_eq]
           show Op.bytesLess f.name g.name=true
           rw[hls]
           have h3:f.name<=g.name:=List.not_lt.1 Di
           by_cases h:f.name<g.name
           . exact qd h
           . exact absurd (List.le_antisymm h3 (List.not_lt.1 h)) hfg
        generalize (⟨g.name.toArray⟩:ByteArray)=gx at *
        clear hno HB hls hes hln Di hg hg1
        rcases hor with rfl | rfl
        . have hd1':=hd1.symm
          clear hd1 hd2
          go_wp2_with fail
          go_quiet (fail)
          all_goals go_wp2_with fail
          all_goals go_ret
          all_goals exact⟨by rw[HE.out];rfl,belowq HB2.out _⟩
        . have hd2':=hd2.symm
          clear hd1 hd2
          go_wp2_with fail
          go_quiet (fail)
          all_goals go_wp2_with fail
          all_goals go_ret
          all_goals exact⟨by rw[HE.out];rfl,belowq HB2.out _⟩
   .
    have HE:=qH (show fchk fs=0 by
     rw[HR.out]
     have e:=hno.out
     rw[qO (by have:=HN.out;omega)]at e
     exact e)
    clear hno;go_wp2_with fail;go_ret;exact⟨by rw[HE.out];rfl,Aa.out⟩
theorem bf2:∀(a b:List UInt8),(Lib.compareBytes a b = -1/\a<b)\/(Lib.compareBytes a b=0/\a=b)\/(Lib.compareBytes a b=1/\b<a)
 | [],[]=>by simp[Lib.compareBytes]
 | [],_::_=>by simp[Lib.compareBytes]
 | _::_,[]=>by simp[Lib.compareBytes]
 | x::a,y::b=>by
  rw[Lib.compareBytes]
  by_cases h1:x<y
  . rw[qF h1];left;exact⟨rfl,zY.2 (.inl h1)⟩
  .
   rw[qA h1]
   by_cases h2:y<x
   . rw[qF h2];right;right;exact⟨rfl,zY.2 (.inl h2)⟩
   .
    rw[qA h2]
    have e:x=y:=UInt8.le_antisymm (UInt8.not_lt.1 h2) (UInt8.not_lt.1 h1)
    subst e
    rcases bf2 a b with⟨h,h'⟩|⟨h,h'⟩|⟨h,h'⟩
    . exact .inl ⟨h,zY.2 (.inr ⟨rfl,h'⟩)⟩
    . exact .inr (.inl ⟨h,by rw[h']⟩)
    . exact .inr (.inr ⟨h,zY.2 (.inr ⟨rfl,h'⟩)⟩)
theorem cmp_neg(a b:List UInt8):Lib.compareBytes a b<0 ↔ a<b:=by
 rcases bf2 a b with⟨h,h'⟩|⟨h,h'⟩|⟨h,h'⟩
 . rw[h];simp[h']
 . rw[h,h'];simp
 . rw[h];have:¬a<b:=fun x=>zN _ (zd x h');simp[this]
theorem ca2(a b:List UInt8):Lib.compareBytes a b=0 ↔ a=b:=by
 rcases bf2 a b with⟨h,h'⟩|⟨h,h'⟩|⟨h,h'⟩
 . rw[h];have:¬a=b:=fun x=>zN _ (x ▸ h');simp[this]
 . rw[h,h'];simp
 . rw[h];have:¬a=b:=fun x=>zN _ (x ▸ h');simp[this]
theorem bo5(f:List UInt8)(vb:Value)(ab:Option Addr)(nb cb:Nat)(n:List UInt8)(w:World):
 Calls prog 200 #[.agg #[.string ⟨f.toArray⟩,.slice ab nb cb],.string ⟨n.toArray⟩] w fun e w'=>e=.returned (.int .i64 (Lib.compareBytes f n))/\Bq w w':=by have hC:∀W:World,Calls prog 201 #[.string ⟨f.toArray⟩,.string ⟨n.toArray⟩] W fun e w'=>e=.returned (.int .i64 (Lib.compareBytes f n))/\w'=W:=fun W=>Tryz.strings_Compare ⟨f.toArray⟩ ⟨n.toArray⟩ W;have HC:Hid _:=hC;generalize Lib.compareBytes f n=r at *;generalize (⟨f.toArray⟩:ByteArray)=fx at *;generalize (⟨n.toArray⟩:ByteArray)=nx at *;clear hC;go_enter Tryz.func200,Tryz.ntmps200;go_wp2_with fail;refine qD (HC.out _) ?_;rintro e w2⟨rfl,rfl⟩;go_wp2_with fail;go_ret;exact⟨rfl,C5⟩
theorem bA9(ao:Option Addr)(cap:Nat)(fs:List SFile)(n:List UInt8)(w:World)(hf:j6 w (.slice ao fs.length cap) fs)(hr:j8 none fs=0)(h12:fs.length<=12):
 Calls prog 199 #[.slice ao fs.length cap,.string ⟨n.toArray⟩,.func (.func 200) #[] #[]] w fun e w'=>e=.returned (.tuple #[.int .i64 (I4 fs n),.bool (D3 fs n)])/\Bq w w':=by
 have HF:=qH hf;have HRI:=qH hr;have Ta:=aL6 fs n;obtain⟨N,hN⟩:=qE fs.length;have HN:=qH hN;obtain⟨p,hp⟩:=qE (I4 fs n);have HP:=qH hp;rw[<- hN]at HF h12 Ta ⊢;rw[<- hp]at Ta ⊢;obtain⟨nx,hnx⟩:=qE (⟨n.toArray⟩:ByteArray);have HNX:=qH hnx;rw[<- hnx];clear hf hr hN hp hnx;go_enter Tryz.func199,Tryz.ntmps199;go_wp2_with fail;go_loopw [9,10] (fun s9 s10 wr=>∃lo hi:Nat,s9=.int .i64 lo/\s10=.int .i64 hi/\lo<=p/\p<=hi/\hi<=N/\Hid (Bq w wr)) (fun s9 s10 _=>(intOf s10).toNat-(intOf s9).toNat)
 case atStart=>exact⟨0,N,rfl,rfl,qP _,Ta,qB _,qI _ _⟩
 case round=>
  obtain⟨lo,hi,rfl,rfl,hlp,hph,hhN,Aa⟩:=hrel;by_cases hlt:lo<hi
  .
   obtain⟨h,hh⟩:=qE ((lo+hi) / 2);have hlh:lo<=h:=by omega
   have hhh:h<hi:=by omega
   obtain⟨f,hfk⟩:∃f,fs[h]? = some f:=⟨_,gEl (by have:=HN.out;omega)⟩;have hpi:=bH8 (n:=n) HRI.out hfk;rw[<- HP.out]at hpi;obtain⟨b,off,ab,cb,rfl,hc0,hc1,hrr⟩:=(j6.below HF.out Aa.out).at hfk;have HC:Hid _:=fun(W:World)=>bo5 f.name (.int .i64 0) ab f.b.length cb n W;rw[<- HNX.out]at HC;have hcn:=cmp_neg f.name n;generalize Lib.compareBytes f.name n=r at *;generalize (⟨f.name.toArray⟩:ByteArray)=fx at *;generalize f.b.length=L at *;clear hfk hrr;subst hh;by_cases hpp:(lo+hi) / 2<p
   . have hr0:r<0:=hcn.2 (hpi.2 hpp);clear hcn hpi;go_wp2_with fail;refine qD (HC.out _) ?_;rintro e w3⟨rfl,hb3⟩;have HB3:=qT Aa hb3;clear hb3 HC hc0 hc1;go_wp2_with fail;go_roundw
     case rel=>exact⟨(lo+hi) / 2+1,hi,by rw[show ((lo:Int)+(hi:Int)) / 2+1=(((lo+hi) / 2+1:Nat):Int) by omega],rfl,by omega,hph,hhN,HB3⟩
     case measure=>simp[intOf];omega
   . have hr0:¬r<0:=fun x=>hpp (hpi.1 (hcn.1 x));clear hcn hpi;go_wp2_with fail;refine qD (HC.out _) ?_;rintro e w3⟨rfl,hb3⟩;have HB3:=qT Aa hb3;clear hb3 HC hc0 hc1;go_wp2_with fail;go_roundw
     case rel=>exact⟨lo,(lo+hi) / 2,rfl,by rw[show ((lo:Int)+(hi:Int)) / 2=(((lo+hi) / 2:Nat):Int) by omega],hlp,by omega,by omega,HB3⟩
     case measure=>simp[intOf];omega
  .
   obtain rfl:lo=p:=by omega
   obtain rfl:hi=lo:=by omega
   by_cases hlN:hi<N
   . obtain⟨f,hfk⟩:∃f,fs[hi]? = some f:=⟨_,gEl (by have:=HN.out;omega)⟩;have hth:=bz3 (l:=fs) (n:=n) (by rw[<- HP.out];exact hfk);obtain⟨b,off,ab,cb,rfl,hc0,hc1,hrr⟩:=(j6.below HF.out Aa.out).at hfk;have HC:Hid _:=fun(W:World)=>bo5 f.name (.int .i64 0) ab f.b.length cb n W;rw[<- HNX.out]at HC;have hcz:=ca2 f.name n;have HTH:=qH hth;generalize Lib.compareBytes f.name n=r at *;generalize (⟨f.name.toArray⟩:ByteArray)=fx at *;generalize f.b.length=L at *;clear hfk hrr hth;by_cases hfn:f.name=n
     . have hr0:r=0:=hcz.2 hfn;have HT:=qH (show D3 fs n=true by rw[HTH.out];exact qd hfn);subst hr0;clear hcz HTH hfn;go_wp2_with fail;refine qD (HC.out _) ?_;rintro e w3⟨rfl,hb3⟩;have HB3:=qT Aa hb3;clear hb3 HC hc0 hc1;go_wp2_with fail;go_ret2;exact⟨by rw[HT.out];rfl,HB3.out⟩
     . have hr0:¬r=0:=fun x=>hfn (hcz.1 x);have HT:=qH (show D3 fs n=false by rw[HTH.out];exact qU hfn);clear hcz HTH hfn;go_wp2_with fail;refine qD (HC.out _) ?_;rintro e w3⟨rfl,hb3⟩;have HB3:=qT Aa hb3;clear hb3 HC hc0 hc1;go_wp2_with fail;go_ret2;exact⟨by rw[HT.out,show false=(r==0) by simp[hr0]];rfl,HB3.out⟩
   . have HT:Hid (D3 fs n=false):=bz4 (by rw[<- HP.out,<- HN.out];omega);go_wp2_with fail;go_ret2;exact⟨by rw[HT.out];rfl,Aa.out⟩
theorem bf4(ao:Option Addr)(cap:Nat)(fs:List SFile)(n:List UInt8)(w:World)(hf:j6 w (.slice ao fs.length cap) fs)(hr:j8 none fs=0)(h12:fs.length<=12):
 Calls prog 154 #[.slice ao fs.length cap,.string ⟨n.toArray⟩] w fun e w'=>e=.returned (.tuple #[.int .i64 (I4 fs n),.bool (D3 fs n)])/\Bq w w':=by have HB:Hid _:=bA9 ao cap fs n w hf hr h12;generalize I4 fs n=p at *;generalize D3 fs n=t at *;generalize fs.length=N at *;generalize (⟨n.toArray⟩:ByteArray)=nx at *;clear hf hr;go_enter Tryz.func154,Tryz.ntmps154;go_wp2_with fail;refine qD HB.out ?_;rintro e w1⟨rfl,hb1⟩;have HB1:=qH hb1;clear hb1 HB;go_wp2_with fail;go_ret2;exact⟨rfl,HB1.out⟩
theorem ck3:(prog.info? 5).map (fun i=>(i.zero,i.size,i.bytes))=some (some (.int .u8 0),1,1):=by kernel_rfl
theorem aG0(w:World):Reads w (.slice none 0 0) 0 []:=⟨rfl,none,0,rfl,qB _,by simp[maxLen],fun h=>absurd rfl h⟩
theorem cr6{bs:List UInt8}:∀u∈bs.map U,u.oneCell'=true:=by intro u hu;obtain⟨x,_,rfl⟩:=qg.1 hu;rfl
theorem aD3(ab:Option Addr)(cb:Nat)(bs:List UInt8)(w:World)(hr:Reads w (.slice ab bs.length cb) bs.length (bs.map U))(hl:bs.length<=100000):
 Calls prog 125 #[.slice ab bs.length cb] w fun e w'=>∃ar cr,e=.returned (.slice ar bs.length cr)/\Reads w' (.slice ar bs.length cr) bs.length (bs.map U)/\(∀a,ar=some a->w.heap.size<=a.block)/\Bq w w':=by
 obtain⟨i0,hi,hi0,hi1,hi2⟩:=info_parts ck3;have hq:∀(w:World)(a:Option Addr)(n c n' c':Nat),(binOp .eql 28 (.slice a n c) (.slice none n' c')).run prog w=.ok (.bool a.isNone) w:=fun w a n c n' c'=>Lib.run_eql_slice_nil w _ _ a n c n' c' underlying28;obtain⟨h1,ao,cap,e,h2,h3,h4⟩:=hr;injection e with e1 e2 e3;subst e1 e3
 cases ab with
 | none=>
  have h0:bs=[]:=by
   cases bs with
   | nil=>rfl
   | cons x r=>obtain⟨b,off,e,_⟩:=h4 (by simp);cases e
  subst h0
  clear h4 h1
  go_enter Tryz.func125,Tryz.ntmps125
  go_wp2_with fail
  go_ret
  exact⟨none,0,rfl,aG0 _,(fun a h=>by cases h),qI _ _⟩
 | some a=>
  have Ac:∀j u,(bs.map U)[j]? = some u->w.cell? (a.add j)=some u:=by
   intro j u hj
   have:0<bs.length:=by
    have:=(gSm hj).1
    simp at this
    omega
   obtain⟨b,off,e,hc⟩:=h4 (by omega)
   injection e with e
   subst e
   rw[addF]
   exact hc j u hj
  have HC:Hid _:=Ac
  obtain⟨xs,hxs⟩:=qE (bs.map U)
  have HX:=qH hxs
  obtain⟨N,hN⟩:=qE bs.length
  have HN:=qH hN
  have HXL:=qH (show xs.length=N by rw[hxs,hN,qM])
  rw[<- hxs]at HC
  rw[<- hxs,<- hN]
  rw[<- hN]at hl
  clear h4 h1 Ac hxs hN h2 h3
  go_enter Tryz.func125,Tryz.ntmps125
  go_wp2_with (at_builtin;refine qx _ rfl _ _ 28 rfl w.heap.size 5 i0 (.int .u8 0) 1 1 underlying28 hi hi0 hi1 hi2 rfl (by decide) _ _ _ rfl (World.ownsRow_made w #[] 0 (qB _) (qP _) rfl) a N cb xs rfl ?qc1 ?qc2 ?qc3 ?qc4 ?qc5 ?qc6 ?_)
  case qc1=>first|(rw[HXL.out];done)|(rw[HXL.out,Nat.mul_one])
  case qc2=>
   intro j u hj
   have h:=HC.out j u hj
   rw[C5.cell (bLt w _ h)]
   exact h
  case qc3=>rw[HX.out];exact cr6
  case qc4=>unfold maxLen;omega
  case qc5=>omega
  all_goals try (case qc6=>simp)
  .
   intro v' w1 Ab hg Dh
   have HB:Hid (Bq w w1):=C5.grown hg (by simp) (fun k hk=>by injection hk with hk;subst hk;exact qB _)
   have Ag:w1.ownsRow w.heap.size 5 1 v' N xs:=by simpa using Ab
   have HO:=qH Ag
   have HR:Hid (∃ar cr,v'=.slice ar N cr/\∀a,ar=some a->w.heap.size<=a.block):=(show ∃ar cr,v'=.slice ar N cr/\∀a,ar=some a->w.heap.size<=a.block by
    rcases Ag.2 with⟨rfl,h0⟩|⟨g,cap,cur,rfl,hb,_⟩
    . exact⟨none,0,by rw[h0],fun a h=>by cases h⟩
    . exact⟨_,cap,rfl,fun a h=>by injection h with h;subst h;exact hb⟩)
   clear Ab hg Dh Ag
   go_wp2
   go_ret
   obtain⟨ar,cr,hv,hn⟩:=HR.out
   refine⟨ar,cr,by rw[<- hv];rfl,?_,hn,HB.out⟩
   rw[<- hv]
   exact Reads.of_owns HO.out
theorem bN3(ao:Option Addr)(N c:Nat)(xs:List Value)(w:World)(hl:xs.length=N*2)(hn:N<=100000)(h0:ao=none->N=0)(hc:∀a,ao=some a->∀j u,xs[j]? = some u->w.cell? (a.add j)=some u)(h1:∀u∈xs,u.oneCell'=true):
 Calls prog 124 #[.slice ao N c] w fun e w'=>∃v',e=.returned v'/\w'.ownsRow w.heap.size 83 2 v' N xs/\Bq w w':=by
 obtain⟨i0,hi,hi0,hi1,hi2⟩:=info_parts an8;have hq:∀(w:World)(a:Option Addr)(n c n' c':Nat),(binOp .eql 25 (.slice a n c) (.slice none n' c')).run prog w=.ok (.bool a.isNone) w:=fun w a n c n' c'=>Lib.run_eql_slice_nil w _ _ a n c n' c' underlying25;have HC:Hid _:=hc;have H1:Hid _:=h1;have HL:Hid _:=hl;have H0:Hid _:=h0;clear hc h1 hl h0
 cases ao with
 | none=>
  obtain rfl:=H0.out rfl
  have hx:xs=[]:=qi (by have:=HL.out;omega)
  have HX:=qH hx
  go_enter Tryz.func124,Tryz.ntmps124
  go_wp2_with fail
  go_ret
  exact⟨_,rfl,by first|exact World.ownsRow_nil _ _ _ _ | (rw[HX.out];exact World.ownsRow_nil _ _ _ _),qI _ _⟩
 | some a=>
  go_enter Tryz.func124,Tryz.ntmps124
  go_wp2_with (at_builtin;refine qx _ rfl _ _ 25 rfl w.heap.size 83 i0 (.agg #[.string ⟨#[]⟩,.slice none 0 0]) 2 40 underlying25 hi hi0 hi1 hi2 rfl (by decide) _ _ _ rfl (World.ownsRow_made w #[] 0 (qB _) (qP _) rfl) a N c xs rfl ?qc1 ?qc2 ?qc3 ?qc4 ?qc5 ?qc6 ?_)
  case qc1=>exact HL.out
  case qc2=>
   intro j u hj
   have h:=HC.out a rfl j u hj
   rw[C5.cell (bLt w _ h)]
   exact h
  case qc3=>exact H1.out
  case qc4=>unfold maxLen;omega
  case qc5=>omega
  all_goals try (case qc6=>simp)
  .
   intro v' w1 Ab hg Dh
   have HB:Hid (Bq w w1):=C5.grown hg (by simp) (fun k hk=>by injection hk with hk;subst hk;exact qB _)
   have HO:Hid (w1.ownsRow w.heap.size 83 2 v' N xs):=(show w1.ownsRow w.heap.size 83 2 v' N xs by simpa using Ab)
   clear Ab hg Dh
   go_wp2
   go_ret
   exact⟨v',rfl,HO.out,HB.out⟩
theorem bN4(ao:Option Addr)(cap:Nat)(fs:List SFile)(w:World)(hf:j6 w (.slice ao fs.length cap) fs)(hn:fs.length<=100000):
 Calls prog 124 #[.slice ao fs.length cap] w fun e w'=>∃v' rows,e=.returned v'/\FO w' w.heap.size 83 v' rows/\rows.map (·.1)=fs/\Bq w w':=by
 obtain⟨rows,Az,hrc⟩:=bI0 hf;have hlen:rows.length=fs.length:=by rw[<- Az,qM]
 have h0:ao=none->fs.length=0:=by
  intro h;subst h;rcases za fs.length with h | h
  . exact h
  . obtain⟨f,hfk⟩:∃f,fs[0]? = some f:=⟨_,gEl h⟩;obtain⟨_,_,_,_,e,_⟩:=hf.at hfk
    cases e
 refine (bN3 ao fs.length cap (f8 rows) w (by rw[o8,hlen]) hn h0 ?_ (ab3 rows)).mono ?_
 . intro a ha j u hu;have hne:0<rows.length:=by have:=(gSm hu).1;rw[o8]at this;omega
   obtain⟨⟨b,off,e,_⟩,_⟩:=hrc 0 rows[0] (gEl hne);rw[ha]at e;injection e with e;subst e;rw[addF];refine aM1 (fun k r hk=>?_) j u hu;obtain⟨⟨b',off',e,c0,c1⟩,_⟩:=hrc k r hk;rw[ha]at e;injection e with e;injection e with e1 e2;subst e1 e2;exact⟨c0,c1⟩
 . rintro e w'⟨v',rfl,Ab,hb⟩;refine⟨v',rows,rfl,⟨by rw[hlen];exact Ab,fun r hr=>?_⟩,Az,hb⟩;obtain⟨j,hj,e⟩:=zh.1 hr;obtain⟨_,g1,g2⟩:=hrc j r (by rw[gEl hj,e]);refine⟨g1,g2.below hb,fun hne a ha hg=>?_⟩;have hlt:=(Ab.lt a.block hg).1;obtain⟨h1,ao',cap',e',h2,h3,h4⟩:=g2;obtain⟨b,off,rfl,hc⟩:=h4 hne;injection e' with e1 e2 e3;rw[ha]at e1;injection e1 with e1;subst e1;have hl:0<(r.1.b.map U).length:=by rw[h1];omega
   have:=bLt w _ (hc 0 _ (gEl hl));simp only at this hlt;omega
theorem ck4{rows:List FRow}{k:Nat}{r r':FRow}(h:rows[k]? = some r)(e:r'.1=r.1):(rows.set k r').map (·.1)=rows.map (·.1):=by
 rw[List.map_set,e];apply xX;intro j;rw[xJ];split
 . rename_i hj;subst hj;rw[qQ,h];simp;exact (gSm h).1
 . rfl
theorem _root_.Go.Gs.FO.cells2{w:World}{B:Nat}{e:TypeId}{g n cap:Nat}{rows:List FRow}(h:FO w B e (.slice (some ⟨g,0,none⟩) n cap) rows){k:Nat}{r:FRow}(hk:rows[k]? = some r):w.cell? ⟨g,k*2,none⟩=some (.string ⟨r.1.name.toArray⟩)/\w.cell? ⟨g,k*2+1,none⟩=some (.slice r.2.1 r.2.2.1 r.2.2.2)/\w.frozen? ⟨g,k*2+1,none⟩=false:=by
 have hkl:k<rows.length:=(gSm hk).1;have hnn:n=rows.length:=by
  rcases h.own.2 with⟨h2,_⟩|⟨_,_,_,h2,_⟩
  . cases h2
  . injection h2
 subst hnn;obtain⟨a1,a2⟩:=U6 rows k r hk;have c1:=h.own.cellAt (k*2) (by omega);have c2:=h.own.cellAt (k*2+1) (by omega);rw[a1]at c1;rw[a2]at c2;exact⟨c1,c2,h.own.frozenAt _⟩
theorem aY4(ao:Option Addr)(cap:Nat)(fs:List SFile)(w:World)(hf:j6 w (.slice ao fs.length cap) fs)(hn:fs.length<=12)(hb4:∀f∈fs,f.b.length<=4000):
 Calls prog 113 #[.slice ao fs.length cap] w fun e w'=>∃v' rows,e=.returned v'/\FO w' w.heap.size 83 v' rows/\rows.map (·.1)=fs/\Bq w w':=by
 have hC:=bN4 ao cap fs w hf (by omega);have H4:Hid _:=hb4;have HC:Hid _:=hC;obtain⟨N,hN⟩:=qE fs.length;have HN:=qH hN;rw[<- hN]at HC hn ⊢;clear hf hC hb4 hN;go_enter Tryz.func113,Tryz.ntmps113;go_wp2_with fail;refine qD HC.out ?_;rintro e w1⟨v',rows,rfl,hfo,Ba,hb1⟩;have HLR:rows.length=N:=by rw[HN.out,<- Ba,qM]
 by_cases h0:N=0
 .
  obtain⟨a0,c0,hv,_,_⟩:=hfo.shape;rw[HLR,h0]at hv;subst hv;subst h0;have HE:Hid _:=And.intro hfo (And.intro Ba hb1);clear hfo Ba hb1 HC HLR;go_wp2_with fail;go_loopw [10] (fun i wr=>i=.int .i64 0/\wr=w1) (fun i _=>0)
  case atStart=>exact⟨rfl,rfl⟩
  case round=>obtain⟨rfl,rfl⟩:=hrel;go_wp2_with fail;go_ret;exact⟨_,rows,rfl,HE.out.1,HE.out.2.1,HE.out.2.2⟩
 .
  obtain⟨g,cg,hv,hBg⟩:=hfo.form (by omega);rw[HLR]at hv;subst hv;have HFO:Hid _:=hfo;have HM:Hid _:=Ba;have HB1:Hid _:=hb1;have HW:=qH hBg;clear hfo Ba hb1 HC HLR hBg;go_wp2_with fail;go_loopw [10] (fun i wr=>∃k:Nat,∃rows:List FRow,k<=N/\i=.int .i64 k/\Hid (FO wr w.heap.size 83 (.slice (some ⟨g,0,none⟩) N cg) rows)/\Hid (rows.map (·.1)=fs)/\Hid (Bq w wr)) (fun i _=>N-(intOf i).toNat)
  case atStart=>exact⟨0,rows,qP _,rfl,HFO,HM,HB1⟩
  case round=>
   clear HFO HM HB1;obtain⟨k,rows,hk,rfl,HFO,HM,Aa⟩:=hrel;by_cases hlt:k<N
   .
    obtain⟨r,hr⟩:∃r,rows[k]? = some r:=⟨_,gEl (by have h1:=congrArg List.length HM.out;rw[qM]at h1;have:=HN.out;omega)⟩;have HK:=qH hr;obtain⟨hc0,hc1,hfz⟩:=HFO.out.cells2 hr;have hgd:=HFO.out.good r (mGt hr);have hr4:r.1.b.length<=4000:=H4.out r.1 (by rw[<- HM.out];exact qg.2 ⟨r,mGt hr,rfl⟩);have HG:Hid _:=hgd;have hrd:=hgd.2.1;rw[hgd.1]at hrd hc1;have HQ:Hid _:=fun(W:World)(hb:Bq wr W)=>aD3 r.2.1 r.2.2.2 r.1.b W (Reads.below hrd hb) (by omega);obtain⟨rx,hrx⟩:=qE (⟨r.1.name.toArray⟩:ByteArray);rw[<- hrx]at hc0;obtain⟨r1,hr1⟩:=qE r.2.1;obtain⟨r2,hr2⟩:=qE r.1.b.length;obtain⟨r3,hr3⟩:=qE r.2.2.2;have HR2:=qH hr2;rw[<- hr1,<- hr2,<- hr3]at hc1 HQ;clear hr hgd hrd hr4 hrx hr1 hr2 hr3;go_wp2_with fail;have hQ:=HQ.out _ (C5 (w:=wr) (o:=.cells #[.string rx,.slice r1 r2 r3] 83));refine qD hQ ?_;rintro e w2⟨ar,cr,rfl,Tc,Bl,hb2⟩
    have Ld:Bq wr w2:=C5.trans (hb2.mono C5.size);have Xc:Hid (FO w2 w.heap.size 83 (.slice (some ⟨g,0,none⟩) N cg) rows):=HFO.out.below Ld;have HB2:=qT Aa Ld;obtain⟨hd0,hd1,hdz⟩:=Xc.out.cells2 HK.out;have hgl:=(HFO.out.own.lt g rfl).2
    have HGO:Hid (ac6 w2 (some g) (r.1,ar,r2,cr)):=⟨HR2.out,by show Reads w2 (.slice ar r2 cr) _ _;rw[HR2.out]at Tc ⊢;exact Tc,fun _ a ha he=>by
     have:=Bl a ha
     injection he with he
     simp at this
     omega⟩
    have HFS:Hid _:=Xc.out.set HK.out (r':=(r.1,ar,r2,cr)) rfl HGO.out;clear hQ Tc Bl hb2 Ld HQ hc0 hc1 hfz hgl hd0;go_wp2_with fail;go_roundw
    case rel=>exact⟨k+1,_,by omega,by go_num,HFS,(show _=_ by rw[ck4 (r':=(r.1,ar,r2,cr)) HK.out rfl];exact HM.out),HB2.out.setCell (p:=⟨g,k*2+1,none⟩) HW.out _⟩
    case measure=>simp[intOf];omega
   . go_wp2_with fail;go_ret;exact⟨_,rows,rfl,HFO.out,HM.out,Aa.out⟩
def getS(fs:List SFile)(n:List UInt8):List UInt8 × Int:=if fchk fs=0 then (q8 fs n,0) else ([],fchk fs)
def ak4(w:World)(res:List UInt8 × Int)(e:Ending)(w':World):Prop:=∃ar cr,e=.returned (.tuple #[.slice ar res.1.length cr,.int .i64 res.2])/\Reads w' (.slice ar res.1.length cr) res.1.length (res.1.map U)/\Bq w w'
theorem P3{w w':World}{res:List UInt8 × Int}{e:Ending}{r:Int}(h:res=([],r))(he:e=.returned (.tuple #[.slice none 0 0,.int .i64 r]))(hb:Bq w w'):ak4 w res e w':=by subst h;exact⟨none,0,he,aG0 w',hb⟩
theorem cp5(ao:Option Addr)(cap:Nat)(fs:List SFile)(n:List UInt8)(w:World)(hf:j6 w (.slice ao fs.length cap) fs)(Ad:∀f∈fs,M9 f):
 Calls prog 146 #[.slice ao fs.length cap,.string ⟨n.toArray⟩] w fun e w'=>ak4 w (getS fs n) e w':=by
 have hC:=ac0 ao cap fs w hf Ad;have HC:Hid _:=hC;have HF:=qH hf;obtain⟨N,hN⟩:=qE fs.length;have HN:=qH hN;obtain⟨nx,hnx⟩:=qE (⟨n.toArray⟩:ByteArray);have HNX:=qH hnx;obtain⟨ck,hck⟩:=qE (fchk fs);have HCK:=qH hck;rw[<- hN,<- hck]at HC;rw[<- hN,<- hnx];rw[<- hN]at HF;clear hf Ad hC hN hnx hck;by_cases h0:ck=0
 .
  subst h0;obtain⟨Em,hri⟩:=G2 HCK.out.symm;have HRI:Hid _:=hri;have HFI:Hid _:=fun(W:World)(hb:Bq w W)=>bf4 ao cap fs n W (by rw[<- HN.out];exact HF.out.below hb) hri Em;rw[<- HN.out,<- HNX.out]at HFI;have HGS:=qH (show getS fs n=(q8 fs n,0) by unfold getS;rw[qF HCK.out.symm]);rw[<- HN.out]at Em;have hpl:=aL6 fs n;obtain⟨p,hp⟩:=qE (I4 fs n);have HP:=qH hp;obtain⟨t,ht⟩:=qE (D3 fs n);have HT:=qH ht;rw[<- hp,<- ht]at HFI;rw[<- hp,<- HN.out]at hpl;clear hri hp ht;go_enter Tryz.func146,Tryz.ntmps146;go_wp2_with fail;refine qD HC.out ?_;rintro e w1⟨rfl,hb1⟩;have HB1:=qH hb1;clear hb1 HC;go_wp2_with fail;have hQ:=HFI.out w1 HB1.out;refine qD hQ ?_;rintro e w2⟨rfl,hb2⟩;have HB2:=qT HB1 hb2;clear hb2 hQ HFI HB1
  cases t with
  | false=>
   have HGN:=qH (show getS fs n=([],0) by rw[HGS.out,ax7 HRI.out HT.out.symm])
   go_wp2_with fail
   go_ret2
   exact P3 HGN.out rfl HB2.out
  | true=>
   obtain⟨f,hfk,hfn⟩:=aq5 HT.out.symm
   have HGF:=qH (show getS fs n=(f.b,0) by rw[HGS.out,ak0 HRI.out HT.out.symm hfk])
   rw[<- HP.out]at hfk
   have hpN:p<N:=by have:=(gSm hfk).1;rw[HN.out];exact this
   obtain⟨b,off,ab,cb,rfl,hc0,hc1,hrr⟩:=(j6.below HF.out HB2.out).at hfk
   have hb4:=(J2 HRI.out f (mGt hfk)).2
   have HQ:Hid _:=fun(W:World)(hb:Bq w2 W)=>aD3 ab cb f.b W (Reads.below hrr hb) (by omega)
   obtain⟨L,hL⟩:=qE f.b.length
   have HL:=qH hL
   rw[<- hL]at hc1 HQ
   generalize (⟨f.name.toArray⟩:ByteArray)=fx at *
   clear hfk hfn hrr hb4 hL
   go_wp2_with fail
   have hQ:=HQ.out w2 (qI _ _)
   refine qD hQ ?_
   rintro e w3⟨ar,cr,rfl,Kz,Bl,hb3⟩
   have HB3:=qT HB2 hb3
   have HR3:Hid _:=Kz
   clear hQ HQ Kz Bl hb3
   go_wp2_with fail
   go_ret2
   refine⟨ar,cr,?_,?_,HB3.out⟩
   . rw[HGF.out,<- HL.out];rfl
   . rw[HGF.out];have:=HR3.out;rw[HL.out]at this;exact this
 . have HGS:=qH (show getS fs n=([],ck) by unfold getS;rw[<- HCK.out,qA h0]);go_enter Tryz.func146,Tryz.ntmps146;go_wp2_with fail;refine qD HC.out ?_;rintro e w1⟨rfl,hb1⟩;have HB1:=qH hb1;clear hb1 HC;go_wp2_with fail;go_ret2;exact P3 HGS.out rfl HB1.out
end Go.Proofs.YtllgglolcgdehaaGreatDoor
