/- What Gather does, and more. -/
import Derived.Test.YtllgglolcgdehaaGreatDoorSAb
import Derived.Laws.AppendOwnNone
import Derived.Shelf.GgClosure.Gives
import Derived.Test.YtllgglolcgdehaaGreatDoorSSh2
import Derived.Lib.SlSplitV
import Derived.Test.YtllgglolcgdehaaGreatDoorSa05
set_option linter.all false
set_option maxRecDepth 100000
set_option maxHeartbeats 16000000
namespace Go.Proofs.YtllgglolcgdehaaGreatDoor
open Go.RowKit Go.Gs Tryz
def o6(fs:List SFile)(fr:List (List UInt8)):List UInt8 × Int:=if fchk fs=0 then gather fs fr else ([],fchk fs)
theorem aU2{fs:List SFile}{fr:List (List UInt8)}{k:Nat}{s:List UInt8}(h:fr[k]? = some s):j7 fs (fr.take (k+1))=j7 fs (fr.take k)++lines (q8 fs s):=by rw[qX,h,xa,aT8]
theorem bN5{fs:List SFile}{p:Option (List UInt8)}(h:j8 p fs=0)(n:List UInt8):(q8 fs n).length<=4000:=by
 cases ht:D3 fs n with
 | true=>
  obtain⟨f,hf,_⟩:=aq5 ht
  rw[ak0 h ht hf]
  exact (J2 h f (mGt hf)).2
 | false=>rw[ax7 h ht];simp
theorem ay8{fs:List SFile}{p:Option (List UInt8)}(h:j8 p fs=0):∀(fr:List (List UInt8)),(j7 fs fr).length<=fr.length*4000/\∀s∈j7 fs fr,s.length<=4001
 | []=>by simp[j7]
 | n::r=>by
  obtain⟨h1,h2⟩:=ay8 h r
  rw[show j7 fs (n::r)=lines (q8 fs n)++j7 fs r from rfl]
  have h3:=D9 (q8 fs n)
  have h4:=bN5 h n
  refine⟨by rw[qG,qY];omega,fun s hs=>?_⟩
  rcases xB.1 hs with hs | hs
  .
   have h5:=C0 (q8 fs n)
   have h6:s.length<=(ended (lines (q8 fs n))).length:=by
    obtain⟨a,b,e⟩:=List.append_of_mem hs
    rw[e]
    simp[ended]
    omega
   omega
  . exact h2 s hs
theorem cr7{l:List (List UInt8)}:∀u∈l.map S,u.oneCell'=true:=by intro u hu;obtain⟨x,_,rfl⟩:=qg.1 hu;rfl
theorem aG1{w w':World}{base:Nat}{e:TypeId}{size:Nat}{v:Value}{n:Nat}{xs:List Value}(h:w.ownsRow base e size v n xs)(hb:Bq w w'):w'.ownsRow base e size v n xs:=
 h.kept (row:=none) ⟨hb.os,hb.tape,hb.output,hb.size,fun k hk _=>hb.block k hk⟩ (by cases hv:v.ownBlock <;> simp)
theorem aY5(ao af:Option Addr)(cap cf:Nat)(fs:List SFile)(fr:List (List UInt8))(w:World)(hf:j6 w (.slice ao fs.length cap) fs)(Ad:∀f∈fs,M9 f)(hfr:Reads w (.slice af fr.length cf) fr.length (fr.map S)):
 Calls prog 104 #[.slice ao fs.length cap,.slice af fr.length cf] w fun e w'=>ak4 w (o6 fs fr) e w':=by
 have HC:Hid _:=ac0 ao cap fs w hf Ad;have HF:=qH hf;have HFR:=qH hfr;have hfl:=U9 hfr;obtain⟨N,hN⟩:=qE fs.length;have HN:=qH hN;obtain⟨L,hL⟩:=qE fr.length;have HL:=qH hL;obtain⟨ck,hck⟩:=qE (fchk fs);have HCK:=qH hck;rw[<- hN,<- hck]at HC;rw[<- hN,<- hL];rw[<- hL]at hfl HFR;clear hf Ad hfr hN hck hL;by_cases h0:ck=0
 .
  subst h0;have HGT:=qH (show o6 fs fr=gather fs fr by unfold o6;rw[qF HCK.out.symm]);obtain⟨Em,hri⟩:=G2 HCK.out.symm;have HRI:Hid _:=hri;have HL12:Hid _:=Em;clear hri;rw[<- HN.out]at Em;by_cases hl4:4<L
  . have HR:=qH (show o6 fs fr=([],2) by rw[HGT.out];unfold gather;rw[qF (by have:=HL.out;omega)]);have hq:(4:Int)<L:=by omega
    go_enter Tryz.func104,Tryz.ntmps104;go_wp2_with fail;refine qD HC.out ?_;rintro e w1⟨rfl,hb1⟩;have HB1:=qH hb1;clear hb1 HC;go_wp2_with fail;go_ret2;exact P3 HR.out rfl HB1.out
  .
   have hq:¬(4:Int)<L:=by omega
   have HGA:Hid _:=aW9 fs fr (by have:=HL.out;omega);have Xd:Hid _:=fun(k:Nat)=>ay8 HRI.out (fr.take k);obtain⟨i0,hi,hi0,hi1,hi2⟩:=info_parts N6;go_enter Tryz.func104,Tryz.ntmps104;go_wp2_with fail;refine qD HC.out ?_;rintro e w1⟨rfl,hb1⟩;have HB1:=qH hb1;clear hb1 HC;go_wp2_with fail;go_loopw [7,24] (fun lv i wr=>∃k:Nat,∃al nl cl,k<=L/\i=.int .i64 k/\lv=.slice al nl cl/\Hid (nl=(j7 fs (fr.take k)).length)/\Hid (wr.ownsRow w.heap.size 9 1 (.slice al nl cl) nl ((j7 fs (fr.take k)).map S))/\Hid (Bq w wr)) (fun _ i _=>L-(intOf i).toNat)
   case atStart=>exact⟨0,none,0,0,qP _,rfl,rfl,(show _=_ from rfl),World.ownsRow_nil _ _ _ _,HB1⟩
   case round=>
    clear HB1;obtain⟨k,al,nl,cl,hk,rfl,rfl,HNL,HOW,Aa⟩:=hrel;by_cases hlt:k<L
    .
     obtain⟨s,hs⟩:∃s,fr[k]? = some s:=⟨_,gEl (by have:=HL.out;omega)⟩;obtain⟨bf,of,rfl,hcs⟩:=(Reads.below HFR.out Aa.out).at hs;have HFI:Hid _:=bf4 ao cap fs s wr (HF.out.below Aa.out) HRI.out HL12.out;rw[<- HN.out]at HFI;have HTK:Hid (j7 fs (fr.take (k+1))=j7 fs (fr.take k)++lines (q8 fs s)):=aU2 hs;obtain⟨p,hp⟩:=qE (I4 fs s);have HP:=qH hp;obtain⟨t,ht⟩:=qE (D3 fs s);have HT:=qH ht;rw[<- hp,<- ht]at HFI;generalize (⟨s.toArray⟩:ByteArray)=sx at *;clear hs hp ht;go_wp2_with fail;refine qD HFI.out ?_;rintro e w2⟨rfl,hb2⟩;have HB2:=qT Aa hb2;have HO2:Hid (w2.ownsRow w.heap.size 9 1 (.slice al nl cl) nl ((j7 fs (fr.take k)).map S)):=aG1 HOW.out hb2;clear hb2 HFI HOW hcs
     cases t with
     | false=>
      have HE:=qH (show j7 fs (fr.take (k+1))=j7 fs (fr.take k) by rw[HTK.out,ax7 HRI.out HT.out.symm];simp[lines,l7])
      go_wp2_with fail
      go_roundw
      case rel=>exact⟨k+1,_,_,_,by omega,by go_num,rfl,(show _=_ by rw[HE.out];exact HNL.out),(show World.ownsRow _ _ _ _ _ _ _ by rw[HE.out];exact HO2.out),HB2⟩
      case measure=>simp[intOf];omega
     | true=>
      obtain⟨f,hfk,hfn⟩:=aq5 HT.out.symm
      have hfo:=ak0 HRI.out HT.out.symm hfk
      rw[<- HP.out]at hfk
      have hpN:p<N:=by have:=(gSm hfk).1;rw[HN.out];exact this
      obtain⟨b,off,ab,cb,rfl,hc0,hc1,hrr⟩:=(j6.below HF.out HB2.out).at hfk
      have hb4:=(J2 HRI.out f (mGt hfk)).2
      have HOF:Hid _:=bm6 (.slice ab f.b.length cb) f.b w2 hrr hb4
      have Td:=qH (show j7 fs (fr.take (k+1))=j7 fs (fr.take k)++lines f.b by rw[HTK.out,hfo])
      have hm4:(lines f.b).length<=4000:=qw (D9 _) hb4
      obtain⟨FL,hFL⟩:=qE f.b.length
      rw[<- hFL]at hc1 HOF
      obtain⟨ML,hML⟩:=qE (lines f.b)
      have HML:=qH hML
      rw[<- hML]at HOF Td hm4
      generalize (⟨f.name.toArray⟩:ByteArray)=fx at *
      clear hfk hfn hfo hrr hb4 hFL hML HTK
      go_wp2_with fail
      refine qD HOF.out ?_
      rintro e w3⟨r,rfl,Ab,hb3⟩
      have HB3:=qT HB2 hb3
      have HO3:Hid (w3.ownsRow w.heap.size 9 1 (.slice al nl cl) nl ((j7 fs (fr.take k)).map S)):=aG1 HO2.out hb3
      have HW3:Hid (w.heap.size<=w3.heap.size):=HB3.out.size
      have hn4:nl<=16000:=by
       have:=(Xd.out k).1
       rw[<- HNL.out,qL]at this
       have:min k fr.length<=4:=by omega
       omega
      obtain⟨mm,hmm⟩:=qE ML.length
      have HMM:=qH hmm
      rw[<- hmm]at Ab hm4
      obtain⟨zs,hzs⟩:=qE (ML.map S)
      have HZ:=qH hzs
      rw[<- hzs]at Ab
      obtain⟨ys,hys⟩:=qE ((j7 fs (fr.take k)).map S)
      have HY:=qH hys
      rw[<- hys]at HO3
      have Xe:=qH (show nl+mm=(j7 fs (fr.take (k+1))).length by rw[Td.out,qG,<- HNL.out,<- HMM.out])
      have HYZ:=qH (show (j7 fs (fr.take (k+1))).map S=ys++zs by rw[Td.out,qz,HY.out,HZ.out])
      rcases Ab.2 with⟨rfl,h00⟩|⟨g,cg,cur,rfl,hbg,hgg,_,_,_,htk⟩
      . have hz0:zs=[]:=by have:=Ab.1;rw[h00]at this;exact qi (by omega)
        subst h00
        have HZ0:=qH hz0
        clear Ab hb3 HOF HO2 hmm hzs hys hc0 hc1 hz0
        go_wp2_with (at_builtin;refine wpList_append_own_none rfl (.tmp 48) (.tmp 49) 53 rfl w.heap.size 9 i0 1 underlying53 hi _ nl ys rfl HO3.out rfl ?_)
        go_roundw
        case rel=>exact⟨k+1,_,_,_,by omega,by go_num,rfl,(show _=_ from Xe.out),(show World.ownsRow _ _ _ _ _ _ _ by rw[HYZ.out,HZ0.out,xH];exact HO3.out),HB3⟩
        case measure=>simp[intOf];omega
      .
       have HCE:Hid (∀j u,zs[j]? = some u->w3.cell? ((⟨g,0,none⟩:Addr).add j)=some u):=Ab.cells rfl
       clear Ab hb3 HOF HO2 hmm hzs hys hc0 hc1 htk hgg hbg
       go_wp2_with (at_builtin;refine qx _ rfl (.tmp 48) (.tmp 49) 53 rfl w.heap.size 9 i0 (.string ⟨#[]⟩) 1 16 underlying53 hi hi0 hi1 hi2 rfl (by decide) _ nl ys rfl HO3.out ⟨g,0,none⟩ mm cg zs rfl ?c0 ?c1 ?c2 ?c3 ?c4 ?c5 ?_)
       case c0=>rw[HZ.out,qM,<- HMM.out,Nat.mul_one]
       case c1=>exact HCE.out
       case c2=>rw[HZ.out];exact cr7
       case c3=>unfold maxLen;omega
       case c4=>omega
       case c5=>exact HW3.out
       .
        intro v' w9 Ab Af _
        have hle9:∃a9 c9,v'=.slice a9 (nl+mm) c9:=by
         rcases Ab.2 with⟨rfl,h0⟩|⟨g',c',cur',rfl,_⟩
         . exact⟨none,0,by rw[h0]⟩
         . exact⟨_,c',rfl⟩
        obtain⟨a9,c9,rfl⟩:=hle9
        have HO9:=qH (show w9.ownsRow w.heap.size 9 1 (.slice a9 (nl+mm) c9) (nl+mm) ((j7 fs (fr.take (k+1))).map S) by rw[HYZ.out];exact Ab)
        have HB9:Hid (Bq w w9):=HB3.out.grown Af HW3.out (fun q hq=>(HO3.out.lt q hq).1)
        clear Ab Af HO3
        go_wp2_with fail
        go_roundw
        case rel=>exact⟨k+1,_,_,_,by omega,by go_num,rfl,Xe,HO9,HB9⟩
        case measure=>simp[intOf];omega
    .
     have hkL:k=L:=by omega
     have HA:=qH (show fr.take k=fr from qO (by have:=HL.out;omega));have hrd:=Reads.of_owns HOW.out;have Tf:=(Xd.out k).2;rw[HA.out]at hrd Tf;have hnl:=HNL.out;rw[HA.out]at hnl;have HBY:Hid _:=bm7 (.slice al nl cl) (j7 fs fr) wr (by rw[<- hnl];exact hrd) (fun s hs=>qw (Tf s hs) (by omega));clear hrd Tf hnl;go_wp2_with fail;refine qD HBY.out ?_;rintro e w2 (⟨hbd,rfl,rfl⟩|⟨hbd,r,rfl,Ab,hb2⟩)
     . have HR:=qH (show o6 fs fr=([],bad 4000 (j7 fs fr)) by rw[HGT.out,HGA.out,qA hbd]);generalize bad 4000 (j7 fs fr)=bd at *;go_wp2_with fail;go_ret2;exact P3 HR.out rfl Aa.out
     . have HR:=qH (show o6 fs fr=(ended (j7 fs fr),0) by rw[HGT.out,HGA.out,qF hbd]);have HB2:=qT Aa hb2;have hrd:=Reads.of_owns Ab;obtain⟨a3,c3,rfl,_,_⟩:=hrd.shape;have HRD:Hid _:=hrd;obtain⟨EN,hEN⟩:=qE ((ended (j7 fs fr)).length);have HEN:=qH hEN;rw[<- hEN];clear hrd Ab hb2 hbd hEN HBY;go_wp2_with fail;go_ret2;refine⟨a3,c3,?_,?_,HB2.out⟩
       . rw[HR.out,<- HEN.out];rfl
       . rw[HR.out];exact HRD.out
 . have HR:=qH (show o6 fs fr=([],ck) by unfold o6;rw[<- HCK.out,qA h0]);go_enter Tryz.func104,Tryz.ntmps104;go_wp2_with fail;refine qD HC.out ?_;rintro e w1⟨rfl,hb1⟩;have HB1:=qH hb1;clear hb1 HC;go_wp2_with fail;go_ret2;exact P3 HR.out rfl HB1.out
theorem aN8{w:World}{B g cap n nn:Nat}{os:Array Obj}{e:TypeId}{ls ts:List (List UInt8)}(Ab:w.ownsRow B e 1 (.slice (some ⟨g,0,none⟩) n cap) n (ls.map S))(hl:ls.length=n)(ht:ts.length=ls.length):
 (Sort.grow (Sort.putRow encStr (Sort.ahead w nn) g 0 ts.toArray) os).ownsRow B e 1 (.slice (some ⟨g,0,none⟩) n cap) n (ts.map S):=by
 subst hl;rcases Ab.2 with⟨h0,_⟩|⟨g',cap',cur,hv,Kv,hb,h1,h2,h3,h4⟩
 . cases h0
 cases hv;exact ownsRow_sorted (n:=nn) (os:=os) (ts:=ts) (ss:=ls) ht Kv hb h1 h2 h3
theorem ca3(v:Value)(ls:List (List UInt8))(w:World)(B:Nat)(hB:B<=w.heap.size)(Ab:w.ownsRow B 9 1 v ls.length (ls.map S))(hl:ls.length<=1000000):
 Calls prog 187 #[v] w fun e w'=>e=.returned (.tuple #[])/\w'.ownsRow B 9 1 v (I8 ls).length ((I8 ls).map S)/\Below B w w':=by
 rcases Y4 Ab with⟨rfl,rfl⟩|⟨g,cap,rfl,hBg,hgw,hcap,hcm,hH⟩
 . refine (Tryz.slices_Sort_string_none none 0 w).mono ?_;rintro e w'⟨rfl,rfl⟩;exact⟨rfl,by simpa[I8]using World.ownsRow_nil w' B 9 1,qI _ _⟩
 .
  refine (Tryz.slices_Sort_string g 0 cap ls w hH hgw (by omega)).mono ?_;rintro e w'⟨rfl,nn,os,rfl⟩;have hlen:(I8 ls).length=ls.length:=(F7 ls).length_eq;refine⟨rfl,?_,?_⟩
  . rw[hlen];exact aN8 Ab rfl hlen
  . exact (qI B w).grown (grownBy_sorted _) hB (fun j hj=>by cases hj;exact hBg)
theorem bo6(v:Value)(ls:List (List UInt8))(w:World)(B:Nat)(Ab:w.ownsRow B 9 1 v ls.length (ls.map S))(hl:ls.length<=1000000):
 Calls prog 210 #[v] w fun e w'=>∃r,e=.returned r/\w'.ownsRow B 9 1 r (Lib.compact ls).length ((Lib.compact ls).map S)/\Below B w w':=by
 rcases Y4 Ab with⟨rfl,rfl⟩|⟨g,cap,rfl,hBg,hgw,hcap,hcm,hH⟩
 . refine (Tryz.slices_Compact_string_empty none 0 w).mono ?_;rintro e w'⟨rfl,rfl⟩;exact⟨_,rfl,World.ownsRow_nil w' B 9 1,qI _ _⟩
 . refine (Tryz.slices_Compact_string g 0 cap ls w hH (by omega) hcap).mono ?_;rintro e w'⟨rfl,q,rfl⟩;have hle:=Lib.compact_length_le ls;have hc:=Lib.ownsRow_putRow (enc:=encStr) (q:=q) (k:=(Lib.compact ls).length) (ys:=Lib.compact ls++List.replicate (ls.length-(Lib.compact ls).length) []) Ab (by simp;omega) hle;rw[List.take_left]at hc;exact⟨_,rfl,hc,Lib.below_putRow (qI _ _) hBg⟩
theorem bN6(sx:ByteArray)(n:Int)(v:Value)(ls:List (List UInt8))(w:World)(B:Nat)(hB:B<=w.heap.size)(Ab:w.ownsRow B 9 1 v ls.length (ls.map S))(hl:ls.length<=300000):
 Calls prog 157 #[.agg #[.int .i64 6,.string sx,.int .i64 n],v] w fun e w'=>∃r,e=.returned r/\Reads w' r (I8 ls).length ((I8 ls).map S)/\Below B w w':=by
 have hsf:=fun(a:Addr)(c:Array Value)(w:World)=>run_store prog w a (.func (.func 203) #[] c) .plain rfl;have Ho:Hid _:=Ab;clear Ab;go_enter Tryz.func157,Tryz.ntmps157;go_wp2_with fail;refine (ca3 v ls _ B ?_ (D5 Ho.out A9) (by omega)).mono ?_
 . have:=(A9 (w:=w) (o:=.cells #[.int .i64 6,.string sx,.int .i64 n] 70) (p:=.cells #[.nilFunc] 127)).size;simp;omega
 rintro e w1⟨rfl,Bg,Bm⟩;have R:Hid _:=Reads.of_owns Bg;have HB:Hid (Below B w w1):=((A9.mono hB).trans Bm);clear Bg Bm;go_wp2_with fail;go_ret;exact⟨_,rfl,R.out,HB.out⟩
theorem bN7(sx:ByteArray)(n:Int)(v:Value)(ls:List (List UInt8))(w:World)(B:Nat)(hB:B<=w.heap.size)(Ab:w.ownsRow B 9 1 v ls.length (ls.map S))(hl:ls.length<=300000):
 Calls prog 157 #[.agg #[.int .i64 7,.string sx,.int .i64 n],v] w fun e w'=>∃r,e=.returned r/\Reads w' r (Lib.compact ls).length ((Lib.compact ls).map S)/\Below B w w':=by have hsf:=fun(a:Addr)(c:Array Value)(w:World)=>run_store prog w a (.func (.func 203) #[] c) .plain rfl;have Ho:Hid _:=Ab;clear Ab;go_enter Tryz.func157,Tryz.ntmps157;go_wp2_with fail;refine (bo6 v ls _ B (D5 Ho.out A9) (by omega)).mono ?_;rintro e w1⟨r,rfl,Bg,Bm⟩;have R:Hid _:=Reads.of_owns Bg;have HB:Hid (Below B w w1):=((A9.mono hB).trans Bm);clear Bg Bm;go_wp2_with fail;go_ret;exact⟨_,rfl,R.out,HB.out⟩
def cutL(x:List UInt8):List UInt8:=x.take 1000000
def encL(x:List UInt8):Value:=encStr (cutL x)
theorem bf5{s:List UInt8}(h:s.length<=1000000):cutL s=s:=qO h
theorem ay9(s:List UInt8):(cutL s).length<=1000000:=by unfold cutL;simp;omega
theorem bB0(ls:List (List UInt8))(p:List UInt8->Bool)(h:∀s∈ls,s.length<=1000000):(ls.filter fun x=>!p (cutL x))=ls.filter fun x=>!p x:=by apply List.filter_congr;intro x hx;rw[bf5 (h x hx)]
theorem bI7(ls:List (List UInt8))(h:∀s∈ls,s.length<=1000000):ls.map encL=ls.map S:=by apply zJ;intro x hx;unfold encL;rw[bf5 (h x hx)];rfl
theorem bo7(fv:Value)(w:World):
 Calls prog 204 #[.slice none 0 0,fv] w fun e w'=>e=.returned (.slice none 0 0)/\w'=w:=by
 have hf:=Tryz.slices_IndexFunc_empty (α:=List UInt8) none 0 fv w;go_enter Tryz.func204,Tryz.ntmps204;go_wp2_with (go_at_call 256;refine hf.mono ?_;rintro e w9⟨rfl,rfl⟩)
 go_ret;exact⟨rfl,rfl⟩
theorem aN9(v:Value)(ls:List (List UInt8))(w:World)(B g:Nat)(lb:Array Value)(p:List UInt8->Bool)(eg:∀args w,(callFunc g args).run prog w=.ok (.enter g args) w)(Ab:w.ownsRow B 9 1 v ls.length (ls.map S))(hl:ls.length<=1000000)(hsz:∀s∈ls,s.length<=1000000)
 (hp:PredAt prog g lb encL (fun x=>p (cutL x)) w) (hpo:∀blk,v.ownBlock=some blk->PredOver prog g lb encL (fun x=>p (cutL x)) blk 0 ls.length w):
 Calls prog 204 #[v,.func (.func g) #[] lb] w fun e w'=>∃r,e=.returned r/\w'.ownsRow B 9 1 r (ls.filter fun x=>!p x).length ((ls.filter fun x=>!p x).map S)/\Below B w w':=by
 rcases Y4 Ab with⟨rfl,rfl⟩|⟨blk,cap,rfl,hBg,hgw,hcap,hcm,hH⟩
 . refine (bo7 _ w).mono ?_;rintro e w'⟨rfl,rfl⟩;exact⟨_,rfl,World.ownsRow_nil w' B 9 1,qI _ _⟩
 .
  have hHz:Sort.Holds encL w blk 0 ls.toArray:=by
   intro j hj;have hj':j<ls.length:=by simpa using hj
   obtain⟨h1,h2⟩:=hH j hj;refine⟨?_,h2⟩;rw[h1];unfold encL;rw[bf5];simp only[List.getElem!_toArray];rw[zP ls j hj'];exact hsz _ (zH hj')
  have Ag:w.ownsRow B 9 1 (.slice (some ⟨blk,0,none⟩) ls.length cap) ls.length (ls.map encL):=by rw[bI7 ls hsz];exact Ab
  have hD:=Tryz.slices_DeleteFunc encL (fun _=>rfl) (fun x=>p (cutL x)) g lb eg [] Tryz.zeroValue9 blk 0 cap ls.toArray w hp (hpo blk rfl) hHz (by simp;omega) (by simpa using hcap);simp only[zU]at hD;rw[bB0 ls p hsz]at hD;refine hD.mono ?_;rintro e w'⟨rfl,q,rfl⟩;have hle:(ls.filter fun x=>!p x).length<=ls.length:=List.length_filter_le _ _;have hc:=Lib.ownsRow_putRow (enc:=encL) (q:=q) (k:=(ls.filter fun x=>!p x).length) (ys:=(ls.filter fun x=>!p x)++List.replicate (ls.length-(ls.filter fun x=>!p x).length) ([]:List UInt8)) Ag (by simp;omega) hle;rw[List.take_left,bI7 _ (fun s hs=>hsz s (List.mem_filter.1 hs).1)]at hc;exact⟨_,rfl,hc,Lib.below_putRow (qI _ _) hBg⟩
theorem aD4(bx:Nat)(word x:List UInt8)(m:Int)(W:World)(hc:W.cell? ⟨bx,1,none⟩=some (.string ⟨word.toArray⟩))(hm:W.cell? ⟨0,0,none⟩=some (.int .i64 m))(hx:x.length<=1000000):
 Calls prog 203 #[encStr x,.pointer (some ⟨bx,0,none⟩)] W fun e w'=>e=.returned (.bool (Lib.contains x word))/\w'=W:=by
 have Le:=Tryz.strings_Contains ⟨x.toArray⟩ ⟨word.toArray⟩ m W (by simp[ByteArray.size];omega) hm;simp only at Le;unfold encStr;go_enter Tryz.func203,Tryz.ntmps203;go_wp2_with (go_at_call 135;refine Le.mono ?_;rintro e w9⟨rfl,rfl⟩)
 go_ret;exact⟨rfl,rfl⟩
theorem aG2(bx hb:Nat)(word x:List UInt8)(m:Int)(W:World)(hh:W.cell? ⟨hb,0,none⟩=some (.func (.func 203) #[] #[.pointer (some ⟨bx,0,none⟩)]))(hc:W.cell? ⟨bx,1,none⟩=some (.string ⟨word.toArray⟩))(hm:W.cell? ⟨0,0,none⟩=some (.int .i64 m))(hx:x.length<=1000000):
 Calls prog 205 #[encStr x,.pointer (some ⟨hb,0,none⟩)] W fun e w'=>e=.returned (.bool (!Lib.contains x word))/\w'=W:=by
 have Le:=aD4 bx word x m W hc hm hx;unfold encStr at Le ⊢;have eg:∀args w,(callFunc 203 args).run prog w=.ok (.enter 203 args) w:=enters_of Tryz.func203 (by kernel_rfl) rfl;generalize Lib.contains x word=r at *;go_enter Tryz.func205,Tryz.ntmps205;go_wp2_with (go_at_fn 203;refine Le.mono ?_;rintro e w9⟨rfl,rfl⟩)
 go_ret;exact⟨rfl,rfl⟩
theorem ai2{w:World}{blk n:Nat}{dk:Array (List UInt8)}{os:Array Obj}{a:Addr}{u:Value}(hc:w.cell? a=some u)(hne:a.block≠blk):(sortWorld encL w blk 0 n dk os).cell? a=some u:=by have hB:=bLt w _ hc;unfold sortWorld;rw[Sort.cell?_grow _ _ _ (by rw[Sort.size_putRow];exact hB),Sort.cell?_putRow_other _ _ blk 0 _ _ (Or.inl hne)];exact hc
theorem bN8(word:List UInt8)(n m:Int)(v:Value)(ls:List (List UInt8))(w:World)(B:Nat)(hB0:0 < B)(hB:B<=w.heap.size)(Ab:w.ownsRow B 9 1 v ls.length (ls.map S))(hl:ls.length<=300000)(hsz:∀s∈ls,s.length<=1000000)(hm:w.cell? ⟨0,0,none⟩=some (.int .i64 m)):
 Calls prog 157 #[.agg #[.int .i64 1,.string ⟨word.toArray⟩,.int .i64 n],v] w fun e w'=>∃r,e=.returned r/\Reads w' r (ls.filter fun s=>Lib.contains s word).length ((ls.filter fun s=>Lib.contains s word).map S)/\Below B w w':=by
 have hsf:=fun(a:Addr)(c:Array Value)(w:World)=>run_store prog w a (.func (.func 203) #[] c) .plain rfl;have eg:∀args w,(callFunc 205 args).run prog w=.ok (.enter 205 args) w:=enters_of Tryz.func205 (by kernel_rfl) rfl;obtain⟨w2,hw2⟩:=qE ((w.alloc (.cells #[.int .i64 1,.string ⟨word.toArray⟩,.int .i64 n] 70)).alloc (.cells #[.func (.func 203) #[] #[.pointer (some ⟨w.heap.size,0,none⟩)]] 127));have hb2:Bq w w2:=by rw[hw2];exact A9
 have hbx:w2.cell? ⟨w.heap.size,1,none⟩=some (.string ⟨word.toArray⟩):=by rw[hw2];simp
 have hhb:w2.cell? ⟨w.heap.size+1,0,none⟩=some (.func (.func 203) #[] #[.pointer (some ⟨w.heap.size,0,none⟩)]):=by rw[hw2];simp
 have hm2:w2.cell? ⟨0,0,none⟩=some (.int .i64 m):=(hb2.cell (by show 0 < _;omega)).trans hm
 have hD:=aN9 v ls w2 B 205 #[.pointer (some ⟨w.heap.size+1,0,none⟩)] (fun x=>!Lib.contains x word) eg (D5 Ab hb2) (by omega) hsz
  (fun W x hb=>by
   refine (aG2 w.heap.size (w.heap.size+1) word (cutL x) m W (qC hb hhb) (qC hb hbx) (qC hb hm2) (ay9 x)).mono ?_
   rintro e w'⟨rfl,rfl⟩
   exact⟨rfl,0,rfl⟩)
  (fun blk hblk q os dk x _=>by
   obtain⟨h1,h2⟩:=Ab.lt blk hblk
   refine (aG2 w.heap.size (w.heap.size+1) word (cutL x) m _ (ai2 hhb (by show w.heap.size+1≠blk;omega)) (ai2 hbx (by show w.heap.size≠blk;omega)) (ai2 hm2 (by show 0 ≠ blk;omega)) (ay9 x)).mono ?_
   rintro e w'⟨rfl,rfl⟩
   exact⟨rfl,0,rfl⟩)
 have e1:(ls.filter fun x=>!(!Lib.contains x word))=ls.filter fun s=>Lib.contains s word:=by simp
 rw[e1]at hD;generalize (ls.filter fun s=>Lib.contains s word)=R at *;have H2:Hid _:=hw2;clear hbx hhb hm2;rw[hw2]at hD;clear hw2 hb2;go_enter Tryz.func157,Tryz.ntmps157;go_wp2_with fail;refine hD.mono ?_;rintro e w1⟨r,rfl,Bg,Bm⟩;have R:Hid _:=Reads.of_owns Bg;have HB:Hid (Below B w w1):=((A9.mono hB).trans Bm);clear Bg Bm;go_wp2_with fail;go_ret;exact⟨_,rfl,R.out,HB.out⟩
theorem bN9(word:List UInt8)(n m:Int)(v:Value)(ls:List (List UInt8))(w:World)(B:Nat)(hB0:0 < B)(hB:B<=w.heap.size)(Ab:w.ownsRow B 9 1 v ls.length (ls.map S))(hl:ls.length<=300000)(hsz:∀s∈ls,s.length<=1000000)(hm:w.cell? ⟨0,0,none⟩=some (.int .i64 m)):
 Calls prog 157 #[.agg #[.int .i64 2,.string ⟨word.toArray⟩,.int .i64 n],v] w fun e w'=>∃r,e=.returned r/\Reads w' r (ls.filter fun s=>!Lib.contains s word).length ((ls.filter fun s=>!Lib.contains s word).map S)/\Below B w w':=by
 have hsf:=fun(a:Addr)(c:Array Value)(w:World)=>run_store prog w a (.func (.func 203) #[] c) .plain rfl;have eg:∀args w,(callFunc 203 args).run prog w=.ok (.enter 203 args) w:=enters_of Tryz.func203 (by kernel_rfl) rfl;obtain⟨w2,hw2⟩:=qE ((w.alloc (.cells #[.int .i64 2,.string ⟨word.toArray⟩,.int .i64 n] 70)).alloc (.cells #[.func (.func 203) #[] #[.pointer (some ⟨w.heap.size,0,none⟩)]] 127));have hb2:Bq w w2:=by rw[hw2];exact A9
 have hbx:w2.cell? ⟨w.heap.size,1,none⟩=some (.string ⟨word.toArray⟩):=by rw[hw2];simp
 have hm2:w2.cell? ⟨0,0,none⟩=some (.int .i64 m):=(hb2.cell (by show 0 < _;omega)).trans hm
 have hD:=aN9 v ls w2 B 203 #[.pointer (some ⟨w.heap.size,0,none⟩)] (fun x=>Lib.contains x word) eg (D5 Ab hb2) (by omega) hsz
  (fun W x hb=>by
   refine (aD4 w.heap.size word (cutL x) m W (qC hb hbx) (qC hb hm2) (ay9 x)).mono ?_
   rintro e w'⟨rfl,rfl⟩
   exact⟨rfl,0,rfl⟩)
  (fun blk hblk q os dk x _=>by
   obtain⟨h1,h2⟩:=Ab.lt blk hblk
   refine (aD4 w.heap.size word (cutL x) m _ (ai2 hbx (by show w.heap.size≠blk;omega)) (ai2 hm2 (by show 0 ≠ blk;omega)) (ay9 x)).mono ?_
   rintro e w'⟨rfl,rfl⟩
   exact⟨rfl,0,rfl⟩)
 generalize (ls.filter fun s=>!Lib.contains s word)=R at *;clear hbx hm2;rw[hw2]at hD;clear hw2 hb2;go_enter Tryz.func157,Tryz.ntmps157;go_wp2_with fail;refine hD.mono ?_;rintro e w1⟨r,rfl,Bg,Bm⟩;have R:Hid _:=Reads.of_owns Bg;have HB:Hid (Below B w w1):=((A9.mono hB).trans Bm);clear Bg Bm;go_wp2_with fail;go_ret;exact⟨_,rfl,R.out,HB.out⟩
def aD5(g:Nat)(lb:Array Value)(F:List UInt8->List UInt8)(blk:Option Nat)(w:World):Prop:=
 ∀(W:World)(b cap:Nat)(x:List UInt8),w.grownBy W blk->w.heap.size<=b->b<W.heap.size->x.length<=cap->cap<=maxLen->x.length<=300000->Sort.Holds U W b 0 x.toArray ->
  Calls prog g (#[.slice (some ⟨b,0,none⟩) x.length cap]++lb) W fun e w'=>∃r,e=.returned r/\(convert 28 9 r).run prog w'=.ok (.string ⟨(F x).toArray⟩) w'/\Below b W w'
theorem grown_of{w W:World}{blk:Option Nat}(h:Bq w W):w.grownBy W blk:=⟨h.os,h.tape,h.output,h.size,fun k hk _=>h.block k hk⟩
theorem an9{w w1 w2:World}{blk:Option Nat}(h:w.grownBy w1 blk)(k:w1.grownBy w2 blk):w.grownBy w2 blk:=
 ⟨k.os.trans h.os,k.tape.trans h.tape,k.output.trans h.output,qw h.size k.size,fun j hj hne=>(k.block j (xT hj h.size) hne).trans (h.block j hj hne)⟩
theorem bO0{w:World}{g k:Nat}{u:Value}:w.grownBy (w.setCell ⟨g,k,none⟩ u) (some g):=
 ⟨rfl,rfl,rfl,by simp,fun j hj hne=>qJ w _ u j (fun e=>hne (by rw[e]))⟩
theorem grown_below{w W:World}{g B:Nat}(h:w.grownBy W (some g))(hB:B<=w.heap.size)(hg:B<=g):Below B w W:=
 ⟨h.os,h.tape,h.output,h.size,fun k hk=>h.block k (by omega) (fun e=>by cases e;omega)⟩
theorem ak5{w W:World}{blk:Option Nat}{a:Addr}{u:Value}(h:w.grownBy W blk)(hc:w.cell? a=some u)(hne:some a.block≠blk):W.cell? a=some u:=
 (World.cell?_of_block (h.block a.block (bLt w _ hc) hne)).trans hc
theorem aO0(w:World)(s:ByteArray)(cap:Nat)(fr:Nat × Nat)(l:List UInt8)(hl:s.data.toList=l)(hfr:l.length<=fr.1)(hcap:l.length<=cap):Sort.Holds U (w.alloc (.cells (bytesRow s cap) 5 fr)) w.heap.size 0 l.toArray:=by
 subst hl;intro j hj;have hj':j<s.data.size:=by simpa using hj
 have Bl:(w.alloc (.cells (bytesRow s cap) 5 fr)).heap[w.heap.size]? = some (.cells (bytesRow s cap) 5 fr):=qN w _;constructor
 . rw[qV _ _ _ _ _ _ Bl,qa];unfold bytesRow;rw[Array.getElem?_append_left (by simpa using hj'),Array.getElem?_map,zX hj'];show some (U s.data[j])=some (U (s.data.toList.toArray)[j]!);rw[zP _ j hj]
 . simp only[World.frozen?,Bl];have:s.data.size<=fr.1:=by simpa using hfr
   simp;omega
theorem bO1(ls:List (List UInt8))(F:List UInt8->List UInt8)(k:Nat)(x:List UInt8)(hx:ls[k]? = some x):(((ls.take k).map F++ls.drop k).map S).set k (S (F x))=((ls.take (k+1)).map F++ls.drop (k+1)).map S:=by
 obtain⟨hk,he⟩:=gSm hx;have h1:ls.drop k=x::ls.drop (k+1):=by rw[qh hk,he]
 have h2:ls.take (k+1)=ls.take k++[x]:=by rw[qX,hx];rfl
 have h3:((ls.take k).map F).length=k:=by simp;omega
 rw[h1,h2];simp only[qz,qs,List.map_nil,qp,zG,xn];rw[zC _ _ (by simp;omega)];simp[ql (Nat.le_of_lt hk)]
theorem bO2{w:World}{B g cap L:Nat}{ls:List (List UInt8)}{F:List UInt8->List UInt8}(hL:L=ls.length)(h:w.ownsRow B 9 1 (.slice (some ⟨g,0,none⟩) ls.length cap) ls.length (ls.map S)):w.ownsRow B 9 1 (.slice (some ⟨g,0,none⟩) L cap) L (((ls.take 0).map F++ls.drop 0).map S):=by rw[hL];exact h
theorem bO3{w wr:World}{g gf:Nat}{lb:Array Value}{F:List UInt8->List UInt8}{x:List UInt8}{sx:ByteArray}(hF:aD5 gf lb F (some g) w)(hgr:w.grownBy wr (some g))(hsx:sx=⟨x.toArray⟩)(hx:x.length<=300000):
 Calls prog gf (#[.slice (some ⟨wr.heap.size,0,none⟩) sx.size (grownCap wr sx.size 0 5)]++lb) (wr.alloc (.cells (bytesRow sx (grownCap wr sx.size 0 5)) 5 ((bytesRow sx (grownCap wr sx.size 0 5)).size,(bytesRow sx (grownCap wr sx.size 0 5)).size+1))).drew
  fun e w'=>∃r,e=.returned r/\(convert 28 9 r).run prog w'=.ok (.string ⟨(F x).toArray⟩) w'/\Bq wr w':=by
 have hs:sx.size=x.length:=by subst hsx;simp[ByteArray.size]
 have hd:sx.data.toList=x:=by subst hsx;rfl
 have hc1:x.length<=grownCap wr sx.size 0 5:=by rw[<- hs];exact grownCap_ge _ _ _ _
 have hc2:grownCap wr sx.size 0 5 <= maxLen:=zv _ _ _ _ (by rw[hs];unfold maxLen;omega);have An:x.length<=(bytesRow sx (grownCap wr sx.size 0 5)).size:=by unfold bytesRow;have:sx.data.size=x.length:=hs;simp;omega
 have hB:Bq wr (wr.alloc (.cells (bytesRow sx (grownCap wr sx.size 0 5)) 5 ((bytesRow sx (grownCap wr sx.size 0 5)).size,(bytesRow sx (grownCap wr sx.size 0 5)).size+1))).drew:=
  ((qI _ wr).alloc (qB _) _).drew
 have h:=hF (wr.alloc (.cells (bytesRow sx (grownCap wr sx.size 0 5)) 5 ((bytesRow sx (grownCap wr sx.size 0 5)).size,(bytesRow sx (grownCap wr sx.size 0 5)).size+1))).drew wr.heap.size (grownCap wr sx.size 0 5) x
  (an9 hgr (grown_of hB)) hgr.size (by simp) hc1 hc2 hx (aO0 wr sx _ _ x hd An hc1)
 rw[<- hs]at h;refine h.mono ?_;rintro e w'⟨r,rfl,h1,h2⟩;exact⟨r,rfl,h1,hB.trans h2⟩
theorem bB1{w wr w1:World}{B g cap L k:Nat}{ls:List (List UInt8)}{F:List UInt8->List UInt8}{x:List UInt8}(Ab:wr.ownsRow B 9 1 (.slice (some ⟨g,0,none⟩) L cap) L (((ls.take k).map F++ls.drop k).map S))(hgr:w.grownBy wr (some g))(hb:Bq wr w1)(hx:ls[k]? = some x):
 (w1.setCell ⟨g,k,none⟩ (.string ⟨(F x).toArray⟩)).ownsRow B 9 1 (.slice (some ⟨g,0,none⟩) L cap) L (((ls.take (k+1)).map F++ls.drop (k+1)).map S)/\w.grownBy (w1.setCell ⟨g,k,none⟩ (.string ⟨(F x).toArray⟩)) (some g):=by have h1:=((D5 Ab hb).stored k (S (F x))).1;rw[bO1 ls F k x hx]at h1;exact⟨h1,an9 (an9 hgr (grown_of hb)) bO0⟩
theorem ca4{wr:World}{B g cap L k:Nat}{ls:List (List UInt8)}{F:List UInt8->List UInt8}(hk:k=L)(hL:L=ls.length)(Ab:wr.ownsRow B 9 1 (.slice (some ⟨g,0,none⟩) L cap) L (((ls.take k).map F++ls.drop k).map S)):
 Reads wr (.slice (some ⟨g,0,none⟩) L cap) (ls.map F).length ((ls.map F).map S):=by have h:=Reads.of_owns Ab;rw[hk,hL,qZ,List.drop_length,xH]at h;rw[hL,qM];exact h
theorem bO4(g cap gf:Nat)(lb:Array Value)(F:List UInt8->List UInt8)(eg:∀args w,(callFunc gf args).run prog w=.ok (.enter gf args) w)(ls:List (List UInt8))(w:World)(B:Nat)(hB:B<=w.heap.size)(Ab:w.ownsRow B 9 1 (.slice (some ⟨g,0,none⟩) ls.length cap) ls.length (ls.map S))(hl:ls.length<=300000)(hsz:∀s∈ls,s.length<=300000)(hF:aD5 gf lb F (some g) w):
 Calls prog 206 #[.slice (some ⟨g,0,none⟩) ls.length cap,.func (.func gf) #[] lb] w fun e w'=>∃r,e=.returned r/\Reads w' r (ls.map F).length ((ls.map F).map S)/\Below B w w':=by
 have hg:=Ab.lt g rfl;have hcv:=fun(W:World)(s:ByteArray)=>run_bytes_of_string (P:=prog) W 9 28 5 s underlying9 underlying28 underlying5;have hcap:ls.length<=cap/\cap<=maxLen:=by
  rcases Ab.2 with⟨e0,_⟩|⟨g',cap',cur,e0,_,_,h1,h2,_⟩
  . cases e0
  . cases e0;exact⟨h1,h2⟩
 obtain⟨L,hL⟩:=qE ls.length;have HL:=qH hL;have Ho:Hid _:=Ab;have HF:Hid _:=hF;have hL4:L<=300000:=by omega
 rw[<- hL];clear hF Ab;rw[<- hL]at hcap;clear hL hl;have Ot:cap<=9223372036854775807:=by simpa[maxLen]using hcap.2
 have hcap1:=hcap.1;go_enter Tryz.func206,Tryz.ntmps206;go_wp2_with fail
 go_loopw [9] (fun i wr=>∃k:Nat,k<=L/\i=.int .i64 k/\Hid (wr.ownsRow B 9 1 (.slice (some ⟨g,0,none⟩) L cap) L (((ls.take k).map F++ls.drop k).map S))/\Hid (w.grownBy wr (some g)))
  (fun i _=>L-(intOf i).toNat)
 case atStart=>exact⟨0,qP _,rfl,bO2 HL.out Ho.out,grown_of (qI _ _)⟩
 case round=>
  obtain⟨k,hk,rfl,Ab,hgr⟩:=hrel;by_cases hlt:k<L
  .
   obtain⟨x,hx⟩:∃x,ls[k]? = some x:=⟨_,gEl (by have:=HL.out;omega)⟩;have hxl:x.length<=300000:=hsz x (mGt hx);have Ah:wr.cell? ⟨g,k,none⟩=some (.string ⟨x.toArray⟩):=by rw[Ab.out.cellAt k (by omega),qQ,qj (by simp;omega)];simp only[qM,qL];rw[ql (by have:=HL.out;omega),zE,xd,Nat.add_zero,hx];rfl
   obtain⟨sx,hsx,Ac⟩:∃sx:ByteArray,Hid (sx=⟨x.toArray⟩)/\wr.cell? ⟨g,k,none⟩=some (.string sx):=⟨_,rfl,Ah⟩;have Hx:Hid _:=hx;clear Ah hx hcv;have hcv:=run_bytes_of_string (P:=prog) wr 9 28 5 sx underlying9 underlying28 underlying5;go_wp2_with fail;refine (bO3 HF.out hgr.out hsx.out hxl).mono ?_;rintro e w1⟨r,rfl,hcb,hb1⟩;have Lh:w1.cell? ⟨g,k,none⟩=some (.string sx):=qC hb1 Ac;have hfro1:w1.frozen? ⟨g,k,none⟩=false:=(D5 Ab.out hb1).frozenAt k;have HA:Hid _:=bB1 (w:=w) Ab.out hgr.out hb1 Hx.out;clear hcv Ac Ab hgr hb1;go_wp2_with fail;go_roundw
   case rel=>exact⟨k+1,by omega,by go_num,HA.out.1,HA.out.2⟩
   case measure=>simp[intOf];omega
  . have hkL:k=L:=by omega
    have HR:Hid _:=ca4 hkL HL.out Ab.out;have HB:Hid _:=grown_below hgr.out hB hg.1;clear Ab hgr;go_wp2_with fail;go_ret;exact⟨_,rfl,HR.out,HB.out⟩
theorem aO1(v:Value)(gf:Nat)(lb:Array Value)(F:List UInt8->List UInt8)(eg:∀args w,(callFunc gf args).run prog w=.ok (.enter gf args) w)(ls:List (List UInt8))(w:World)(B:Nat)(hB:B<=w.heap.size)(Ab:w.ownsRow B 9 1 v ls.length (ls.map S))(hl:ls.length<=300000)(hsz:∀s∈ls,s.length<=300000)(hF:∀g,v.ownBlock=some g->aD5 gf lb F (some g) w):
 Calls prog 206 #[v,.func (.func gf) #[] lb] w fun e w'=>∃r,e=.returned r/\Reads w' r (ls.map F).length ((ls.map F).map S)/\Below B w w':=by
 rcases Y4 Ab with⟨rfl,rfl⟩|⟨g,cap,rfl,hBg,hgw,hcap,hcm,hH⟩
 .
  go_enter Tryz.func206,Tryz.ntmps206;go_wp2_with fail;go_loopw [9] (fun i wr=>i=.int .i64 0/\wr=w) (fun _ _=>0)
  case atStart=>exact⟨rfl,rfl⟩
  case round=>obtain⟨rfl,rfl⟩:=hrel;go_wp2_with fail;go_ret;exact⟨_,rfl,⟨rfl,none,0,rfl,qB _,by simp,fun h=>absurd rfl h⟩,qI _ _⟩
 . exact bO4 g cap gf lb F eg ls w B hB Ab hl hsz (hF g rfl)
theorem oneU:OneCell U:=fun _=>rfl
theorem ao0{W:World}{b cap:Nat}{x:List UInt8}(h:Sort.Holds U W b 0 x.toArray)(h1:x.length<=cap)(h2:cap<=maxLen):Reads W (.slice (some ⟨b,0,none⟩) x.length cap) x.length (x.map U):=by
 refine⟨by simp,_,cap,rfl,h1,h2,fun _=>⟨b,0,rfl,fun j u hu=>?_⟩⟩;rw[qQ]at hu
 cases hj:x[j]? with
 | none=>rw[hj]at hu;cases hu
 | some c=>
  rw[hj]at hu
  obtain⟨hlt,he⟩:=gSm hj
  have:=(h j (by simpa using hlt)).1
  rw[this]
  simp only[qu]at hu
  rw[<- hu]
  simp[zP,hlt,he]
theorem bO5(w:World)(blk:Option Nat):aD5 209 #[] List.reverse blk w:=by
 intro W b cap x hgr hb1 hb2 hc1 hc2 hx hH;have Ti:=AnyE.slices_Reverse Tryz.laysRev U oneU b 0 cap x W hH (by omega);change Calls prog 260 _ _ _ at Ti;have HH:Hid _:=hH;clear hgr hH;show Calls prog 209 #[.slice (some ⟨b,0,none⟩) x.length cap] W _;go_enter Tryz.func209,Tryz.ntmps209;go_wp2_with fail;refine Ti.mono ?_;rintro e w1⟨rfl,n,hw1⟩;have HC:Hid ((convert 28 9 (.slice (some ⟨b,0,none⟩) x.length cap)).run prog w1=.ok (.string ⟨x.reverse.toArray⟩) w1):=by
  have h1:Sort.Holds U w1 b 0 x.reverse.toArray:=by rw[hw1];exact Sort.holds_putRow U _ b 0 _ _ (Sort.holds_ahead U W n b 0 _ HH.out) (by simp)
  have h2:=ao0 (cap:=cap) h1 (by simpa using hc1) hc2;have h3:=ah6 (bs:=x.reverse) h2;rw[List.length_reverse]at h3;exact h3
 have HB:Hid (Below b W w1):=by rw[hw1];exact Lib.below_putRow (qI _ _) (qB _)
 clear hw1 Ti;go_wp2_with fail;go_ret;exact⟨_,rfl,HC.out,HB.out⟩
theorem aY6{W:World}{b k:Nat}{d e:List UInt8}{c:UInt8}(h:Sort.Holds U W b 0 d.toArray)(he:e=d.set k c):Sort.Holds U (W.setCell ⟨b,k,none⟩ (U c)) b 0 e.toArray:=by
 subst he;intro j hj;have hj':j<d.length:=by simpa using hj
 obtain⟨h1,h2⟩:=h j (by simpa using hj');rw[qa]at h1 h2 ⊢;by_cases hjk:j=k
 .
  subst hjk;refine⟨?_,?_⟩
  . rw[World.cell?_setCell_same _ _ _ h1];simp[zP,hj']
  . rw[World.frozen?_setCell];exact h2
 . refine⟨?_,?_⟩
   . rw[zI _ _ _ _ (by intro e;cases e;exact hjk rfl),h1];simp[zP,hj',Ne.symm hjk]
   . rw[World.frozen?_setCell];exact h2
theorem az0(a c:UInt8)(x:List UInt8)(k:Nat)(hk:k<x.length):((x.take k).map (fun y=>if y=a then c else y)++x.drop k)[k]? = some x[k]:=by rw[qj (by simp;omega)];simp only[qM,qL];rw[ql (by omega),zE,xd,Nat.add_zero];exact gEl hk
theorem ar4(a c:UInt8)(x:List UInt8)(k:Nat)(hk:k<x.length)(y:UInt8)(hy:y=if x[k]=a then c else x[k]):(x.take (k+1)).map (fun y=>if y=a then c else y)++x.drop (k+1)=((x.take k).map (fun y=>if y=a then c else y)++x.drop k).set k y:=by
 have h1:x.drop k=x[k]::x.drop (k+1):=qh hk;have h2:x.take (k+1)=x.take k++[x[k]]:=by rw[qX,gEl hk];rfl
 have h3:((x.take k).map (fun y=>if y=a then c else y)).length=k:=by simp;omega
 rw[h1,h2,zC _ _ (by omega),h3,zE,List.set_cons_zero];subst hy;simp only[qz,qs,List.map_nil,qp,zG,xn]
theorem bO6(w:World)(blk:Option Nat)(ba bt:Nat)(a c:UInt8)(ha:w.cell? ⟨ba,0,none⟩=some (U a))(ht:w.cell? ⟨bt,0,none⟩=some (U c))(hna:some ba≠blk)(hnt:some bt≠blk):
 aD5 257 #[.pointer (some ⟨ba,0,none⟩),.pointer (some ⟨bt,0,none⟩)] (J8 a c) blk w:=by
 intro W b cap x hgr hb1 hb2 hc1 hc2 hx hH;have ha1:W.cell? ⟨ba,0,none⟩=some (U a):=ak5 hgr ha hna;have ht1:W.cell? ⟨bt,0,none⟩=some (U c):=ak5 hgr ht hnt;have hba:ba<b:=xT (bLt w _ ha) hb1;have hbt:bt<b:=xT (bLt w _ ht) hb1;have HH:Hid _:=hH;clear hgr hH ha ht;show Calls prog 257 #[.slice (some ⟨b,0,none⟩) x.length cap,.pointer (some ⟨ba,0,none⟩),.pointer (some ⟨bt,0,none⟩)] W _;obtain⟨L,hL⟩:=qE x.length;have HL:=qH hL;have hL4:L<=300000:=by omega
 have hLc:L<=cap:=by omega
 have Ot:cap<=9223372036854775807:=by simpa[maxLen]using hc2
 rw[<- hL];clear hL hc1 hx;go_enter Tryz.func257,Tryz.ntmps257;go_wp2_with fail
 go_loopw [9] (fun i wr=>∃k:Nat,k<=L/\i=.int .i64 k/\Hid (Sort.Holds U wr b 0 ((x.take k).map (fun y=>if y=a then c else y)++x.drop k).toArray)/\Hid (Below b W wr))
  (fun i _=>L-(intOf i).toNat)
 case atStart=>exact⟨0,qP _,rfl,HH.out,qI _ _⟩
 case round=>
  obtain⟨k,hk,rfl,hh,Aa⟩:=hrel;by_cases hlt:k<L
  .
   have hkx:k<x.length:=by have:=HL.out;omega
   have hlen:((x.take k).map (fun y=>if y=a then c else y)++x.drop k).length=x.length:=by simp;omega
   have Ed:=hh.out k (by simp only[zU];omega);have Ac:wr.cell? ⟨b,k,none⟩=some (U x[k]):=by have:=Ed.1;rw[qa]at this;rw[this];simp only[List.getElem!_toArray];rw[List.getElem!_eq_getElem?_getD,az0 a c x k hkx];rfl
   have hfro:wr.frozen? ⟨b,k,none⟩=false:=by have:=Ed.2;rwa [qa]at this
   have ha2:wr.cell? ⟨ba,0,none⟩=some (U a):=(Aa.out.cell hba).trans ha1;have ht2:wr.cell? ⟨bt,0,none⟩=some (U c):=(Aa.out.cell hbt).trans ht1;clear Ed ha1 ht1;unfold U at Ac ha2 ht2;by_cases hxa:x[k]=a
   . have HS:Hid _:=ar4 a c x k hkx c (by rw[qF hxa]);have hxe:(x[k].toNat:Int)=(a.toNat:Int):=by rw[hxa]
     rw[hxe]at Ac;clear hxe hxa;have HN:Hid (Sort.Holds U (wr.setCell ⟨b,k,none⟩ (U c)) b 0 ((x.take (k+1)).map (fun y=>if y=a then c else y)++x.drop (k+1)).toArray):=aY6 hh.out HS.out;have HB:Hid (Below b W (wr.setCell ⟨b,k,none⟩ (U c))):=Aa.out.setCell (qB _) _;clear hh Aa;go_wp2_with fail;go_roundw
     case rel=>exact⟨k+1,by omega,by go_num,HN.out,HB.out⟩
     case measure=>simp[intOf];omega
   .
    have HS:Hid _:=ar4 a c x k hkx x[k] (by rw[qA hxa]);have Be:((x.take k).map (fun y=>if y=a then c else y)++x.drop k).set k x[k]=(x.take k).map (fun y=>if y=a then c else y)++x.drop k:=by
     apply xX;intro j;by_cases hj:j=k
     . subst hj;rw[xy (by omega),az0 a c x j hkx]
     . rw[xU (Ne.symm hj)]
    have hne:¬((x[k].toNat:Int)=(a.toNat:Int)):=fun h=>hxa (UInt8.toNat_inj.1 (by exact_mod_cast h));have HN:Hid (Sort.Holds U wr b 0 ((x.take (k+1)).map (fun y=>if y=a then c else y)++x.drop (k+1)).toArray):=by rw[HS.out,Be];exact hh.out
    clear Be HS hh;go_wp2_with fail;go_roundw
    case rel=>exact⟨k+1,by omega,by go_num,HN.out,Aa.out⟩
    case measure=>simp[intOf];omega
  . have hkL:k=L:=by omega
    have HC:Hid ((convert 28 9 (.slice (some ⟨b,0,none⟩) L cap)).run prog wr=.ok (.string ⟨(J8 a c x).toArray⟩) wr):=by have h1:=hh.out;rw[hkL,HL.out,qZ,List.drop_length,xH]at h1;have h2:=ao0 (x:=x.map (fun y=>if y=a then c else y)) (cap:=cap) h1 (by have:=HL.out;simp;omega) hc2;have h3:=ah6 h2;rw[qM,<- HL.out]at h3;exact h3
    clear hh ha1 ht1;go_wp2_with fail;go_ret;exact⟨_,rfl,HC.out,Aa.out⟩
def aO2(x:List UInt8):List Int:=x.map fun c=>(c.toNat:Int)
theorem bo8(x:List UInt8):Lib.bytesOf (aO2 x)=x:=by
 unfold Lib.bytesOf aO2;rw[xh];conv=>rhs;rw[<- List.map_id x]
 apply zJ;intro c _;simp
theorem bo9(x:List UInt8):∀n∈aO2 x,0<=n/\n<256:=by intro n hn;obtain⟨c,_,rfl⟩:=qg.1 hn;have:=c.toNat_lt;omega
theorem aO3(n:Int)(x p:List UInt8)(h1:1<=n)(hp:(Lib.split x [32])[(n-1).toNat]? = some p):E4 n x=p:=by unfold E4;rw[hp];rfl
theorem aO4(n:Int)(x:List UInt8)(h:(Lib.split x [32]).length<n):E4 n x=[]:=by unfold E4;rw[qm (by omega)];rfl
theorem aD6(x:List UInt8):(Lib.split x [32]).length=Lib.count x [32]+1:=by have h:=Lib.splitB_all ⟨#[32]⟩ (by decide) 0 _ ⟨x.toArray⟩ rfl;have h2:=congrArg List.length (Lib.splitB_data ⟨#[32]⟩ 0 (Lib.countB ⟨x.toArray⟩ ⟨#[32]⟩) ⟨x.toArray⟩);rw[qM,h]at h2;exact h2.symm
theorem count_le(x:List UInt8):Lib.count x [32]<=x.length:=by have h:=Lib.countB_le ⟨#[32]⟩ (by decide) _ ⟨x.toArray⟩ (qB _);simpa[ByteArray.size]using h
theorem bp0(W:World)(b cap b2:Nat)(x:List UInt8)(m:Int)(h1:x.length<=cap)(h2:cap<=maxLen)(hx:x.length<=300000)(hH:Sort.Holds U W b 0 x.toArray)(hs:W.cell? ⟨b2,0,none⟩=some (.int .u8 32))(hm:W.cell? ⟨0,0,none⟩=some (.int .i64 m)):
 Calls prog 259 #[.slice (some ⟨b,0,none⟩) x.length cap,.slice (some ⟨b2,0,none⟩) 1 1] W fun e w'=>
  e=.returned (.slice (some ⟨W.heap.size,0,none⟩) (Lib.split x [32]).length (Lib.split x [32]).length)/\Bq W w' /\
   ∀j p,(Lib.split x [32])[j]? = some p->∃v,w'.cell? ⟨W.heap.size,j,none⟩=some v/\(convert 28 9 v).run prog w'=.ok (.string ⟨p.toArray⟩) w':=by
 have Dp:∀(b o i:Nat),(⟨b,o,none⟩:Addr).add i=⟨b,o+i,none⟩:=fun b o i=>by unfold Addr.add;split <;> simp_all
 have hc1:∀i,i<x.length->W.cell? ((⟨b,0,none⟩:Addr).add i)=some (.int .u8 ((aO2 x).getD i 0)):=by intro i hi;rw[Dp,(hH i (by simpa using hi)).1];simp[aO2,U,zP,hi]
 have hc2:∀i,i<1->W.cell? ((⟨b2,0,none⟩:Addr).add i)=some (.int .u8 (([32]:List Int).getD i 0)):=by
  intro i hi;obtain rfl:i=0:=by omega
  rw[Dp];exact hs
 have h:=Tryz.bytes_Split ⟨b,0,none⟩ ⟨b2,0,none⟩ x.length cap 1 1 (aO2 x) [32] m W (by simp[aO2]) rfl (bo9 x) (by decide) hc1 hc2 h1 (by omega) (by omega) (by unfold maxLen at h2;omega) (qB _) hm;rw[bo8,show Lib.bytesOf [32]=[32] from rfl]at h;refine h.mono ?_;rintro e w'⟨rfl,q,rfl⟩;have hl:=aD6 x;refine⟨by rw[hl],below_drewN' ((qI _ W).alloc (qB _) _) q,?_⟩;intro j p hj;have hlen:=Lib.splitV_length [32] 0 (Lib.count x [32]) ⟨b,0,none⟩ cap x;have hjl:j<(Lib.splitV [32] 0 (Lib.count x [32]) ⟨b,0,none⟩ cap x).length:=by rw[hlen];exact (gSm hj).1
 obtain⟨v,hv⟩:∃v,(Lib.splitV [32] 0 (Lib.count x [32]) ⟨b,0,none⟩ cap x)[j]? = some v:=⟨_,gEl hjl⟩;obtain⟨a',off,len,cp,rfl,h3,h4,h5,h6⟩:=Lib.splitV_spec [32] 0 (by decide) (by decide) (Lib.count x [32]) ⟨b,0,none⟩ cap x h1 j v hv;have hp:p=(x.drop off).take len:=by have:(Lib.split x [32])[j]? = some ((x.drop off).take len):=h5;rw[hj]at this;exact xO this
 refine⟨.slice (some a') len cp,?_,?_⟩
 . show (W.alloc _).cell? _=_;rw[qV _ _ _ _ _ _ (qN W _)];simpa using hv
 .
  have hpl:p.length=len:=by rw[hp];simp;omega
  have:=run_convert_bytes_back (P:=prog) ((W.alloc (.cells (Lib.splitV [32] 0 (Lib.count x [32]) ⟨b,0,none⟩ cap x).toArray 28)).drewN q) 28 9 5 a' cp p underlying28 underlying5 underlying9 (fun i hi=>by
   rw[h6 i (by omega),Dp]
   have hox:off+i<x.length:=by omega
   have hcx:=(hH (off+i) (by simpa using hox)).1
   show (W.alloc _).cell? _=_
   rw[Lib.cell?_alloc_some _ (by simpa using hcx)]
   subst hp
   simp[U,hox])
  rw[hpl]at this;exact this
theorem bB2(w:World)(blk:Option Nat)(bn:Nat)(n m:Int)(hn1:1<=n)(hn2:n<=1000)(hbn:w.cell? ⟨bn,0,none⟩=some (.int .i64 n))(hnb:some bn≠blk)(hm:w.cell? ⟨0,0,none⟩=some (.int .i64 m))(hnm:some 0 ≠ blk):
 aD5 258 #[.pointer (some ⟨bn,0,none⟩)] (E4 n) blk w:=by
 intro W b cap x hgr hb1 hb2 hc1 hc2 hx hH;have hn0:W.cell? ⟨bn,0,none⟩=some (.int .i64 n):=ak5 hgr hbn hnb;have hm0:W.cell? ⟨0,0,none⟩=some (.int .i64 m):=ak5 hgr hm hnm;have hmb:0 < W.heap.size:=bLt W _ hm0;have hbw:bn<W.heap.size:=bLt W _ hn0;clear hgr hbn hm
 have hsp:=bp0 (W.alloc (.cells #[.int .u8 32] 5)) b cap W.heap.size x m hc1 hc2 hx
  (fun j hj=>⟨Lib.cell?_alloc_some _ (hH j hj).1,by rw[World.frozen?_alloc_old _ _ _ (by show b≠W.heap.size;omega)];exact (hH j hj).2⟩) (by simp) (Lib.cell?_alloc_some _ hm0)
 have hPl:=aD6 x;have hPc:=count_le x;have HF1:=aO3 n x;have HF2:=aO4 n x;generalize hP:Lib.split x [32]=P at *;clear hH hP;show Calls prog 258 #[.slice (some ⟨b,0,none⟩) x.length cap,.pointer (some ⟨bn,0,none⟩)] W _;obtain⟨N,hN⟩:=qE P.length;have hN4:N<=300001:=by omega
 have hN1:1<=N:=by omega
 rw[<- hN]at hsp HF2;by_cases hnN:n<=N
 .
  obtain⟨p,hp⟩:∃p,P[(n-1).toNat]? = some p:=⟨_,gEl (by omega)⟩;have HE:Hid _:=HF1 p hn1 hp;have Hp:Hid _:=hp;clear HF1 HF2 hp hPl hPc hN;go_enter Tryz.func258,Tryz.ntmps258;go_wp2_with fail;refine hsp.mono ?_;rintro e w1⟨rfl,Aa,hpc⟩;obtain⟨v,hv,hcv⟩:=hpc _ _ Hp.out;have hn1':w1.cell? ⟨bn,0,none⟩=some (.int .i64 n):=(Aa.cell (by show bn<_;simp;omega)).trans (Lib.cell?_alloc_some _ hn0);have HB:Hid (Below b W w1):=(((qI _ W).alloc (qB _) _).trans (Aa.mono (by simp))).mono (by omega);have Sz:((n-1).toNat:Int)=n-1:=by omega
  obtain⟨i,hi⟩:=qE ((n-1).toNat:Nat);have hni:n=(i:Int)+1:=by omega
  rw[<- hi]at hv;have HC:Hid _:=hcv;clear hsp hpc Aa hcv Sz hi hn0 hm0;subst hni;have hv':w1.cell? ⟨W.heap.size+1,i,none⟩=some v:=by simpa using hv
  clear hv;go_wp2_with fail;go_ret;exact⟨_,rfl,by rw[HE.out];exact HC.out,HB.out⟩
 . have HE:Hid _:=HF2 (by omega);clear HF1 HF2 hPl hPc hN;go_enter Tryz.func258,Tryz.ntmps258;go_wp2_with fail;refine hsp.mono ?_;rintro e w1⟨rfl,Aa,hpc⟩;have hn1':w1.cell? ⟨bn,0,none⟩=some (.int .i64 n):=(Aa.cell (by show bn<_;simp;omega)).trans (Lib.cell?_alloc_some _ hn0);have HB:Hid (Below b W w1):=(((qI _ W).alloc (qB _) _).trans (Aa.mono (by simp))).mono (by omega);clear hsp hpc Aa hn0 hm0;go_wp2_with fail;go_ret;refine⟨_,rfl,?_,HB.out⟩;rw[HE.out];exact run_convert_bytes_nil (P:=prog) _ 28 5 underlying28 underlying5 _ _ 9 underlying9
theorem bO7(sx:ByteArray)(n:Int)(v:Value)(ls:List (List UInt8))(w:World)(B:Nat)(hB:B<=w.heap.size)(Ab:w.ownsRow B 9 1 v ls.length (ls.map S))(hl:ls.length<=300000)(hsz:∀s∈ls,s.length<=300000):
 Calls prog 157 #[.agg #[.int .i64 5,.string sx,.int .i64 n],v] w fun e w'=>∃r,e=.returned r/\Reads w' r (ls.map List.reverse).length ((ls.map List.reverse).map S)/\Below B w w':=by
 have hsf:=fun(a:Addr)(c:Array Value)(w:World)=>run_store prog w a (.func (.func 203) #[] c) .plain rfl;have eg:∀args w,(callFunc 209 args).run prog w=.ok (.enter 209 args) w:=enters_of Tryz.func209 (by kernel_rfl) rfl;have Ho:=qH Ab;have HE:Hid _:=eg;clear Ab eg;go_enter Tryz.func157,Tryz.ntmps157;go_wp2_with fail;refine (aO1 v 209 #[] List.reverse HE.out ls _ B ?_ (D5 Ho.out A9) hl hsz (fun g _=>bO5 _ _)).mono ?_
 . have:=(A9 (w:=w) (o:=.cells #[.int .i64 5,.string sx,.int .i64 n] 70) (p:=.cells #[.nilFunc] 127)).size;simp;omega
 rintro e w1⟨r,rfl,hr1,Bm⟩;have R:Hid _:=hr1;have HB:Hid (Below B w w1):=((A9.mono hB).trans Bm);clear hr1 Bm;go_wp2_with fail;go_ret;exact⟨_,rfl,R.out,HB.out⟩
theorem bp1(n:Int)(w:World):
 Calls prog 208 #[.int .i64 n] w fun e w'=>e=.returned (.func (.func 258) #[] #[.pointer (some ⟨w.heap.size,0,none⟩)])/\w'=w.alloc (.cells #[.int .i64 n] 3):=by go_enter Tryz.func208,Tryz.ntmps208;go_wp2_with fail;go_ret;exact⟨rfl,rfl⟩
theorem bB3(a c:UInt8)(w:World):
 Calls prog 207 #[U a,U c] w fun e w'=>e=.returned (.func (.func 257) #[] #[.pointer (some ⟨w.heap.size,0,none⟩),.pointer (some ⟨w.heap.size+1,0,none⟩)])/\w'=(w.alloc (.cells #[U a] 5)).alloc (.cells #[U c] 5):=by unfold U;go_enter Tryz.func207,Tryz.ntmps207;go_wp2_with fail;go_ret;exact⟨rfl,rfl⟩
theorem bB4{w:World}{o p:Obj}{u:Value}{t:TypeId}:(((w.alloc o).alloc p).alloc (.cells #[u] t)).cell? ⟨w.heap.size+2,0,none⟩=some u:=by
 have h:((w.alloc o).alloc p).heap.size=w.heap.size+2:=by simp
 rw[<- h,qV _ _ _ _ _ _ (qN _ _)];rfl
theorem ao4{B:Nat}{w:World}(q:Nat)(os:Array Obj)(hB:B<=w.heap.size):Below B w (Sort.grow (w.drewN q) os):=by have h1:Bq w (w.drewN q):=below_drewN' (qI _ _) q;have h2:=Go.Proofs.below_grown (w.drewN q) 0 os;rw[Sort.ahead_zero]at h2;exact (h1.trans (h2.mono h1.size)).mono hB
theorem bp2{w:World}{o p q:Obj}:Bq w (((w.alloc o).alloc p).alloc q):=A9.alloc (by simp;omega) q
theorem bB5(sx:ByteArray)(n m:Int)(v:Value)(ls:List (List UInt8))(w:World)(B:Nat)(hB0:0 < B)(hB:B<=w.heap.size)(Ab:w.ownsRow B 9 1 v ls.length (ls.map S))(hl:ls.length<=300000)(hsz:∀s∈ls,s.length<=300000)(hn1:1<=n)(hn2:n<=1000)(hm:w.cell? ⟨0,0,none⟩=some (.int .i64 m)):
 Calls prog 157 #[.agg #[.int .i64 4,.string sx,.int .i64 n],v] w fun e w'=>∃r,e=.returned r/\Reads w' r (ls.map (E4 n)).length ((ls.map (E4 n)).map S)/\Below B w w':=by
 have hsf:=fun(a:Addr)(c:Array Value)(w:World)=>run_store prog w a (.func (.func 203) #[] c) .plain rfl;have eg:∀args w,(callFunc 258 args).run prog w=.ok (.enter 258 args) w:=enters_of Tryz.func258 (by kernel_rfl) rfl;have Ho:=qH Ab;have HE:Hid _:=eg;have HM:Hid _:=hm;clear Ab eg hm;go_enter Tryz.func157,Tryz.ntmps157;go_wp2_with fail;refine (bp1 n _).mono ?_;rintro e w3⟨rfl,hw3⟩;have hb3:Bq w w3:=by rw[hw3];exact bp2
 have hc3:w3.cell? ⟨w.heap.size+2,0,none⟩=some (.int .i64 n):=by rw[hw3];exact bB4
 have hm3:w3.cell? ⟨0,0,none⟩=some (.int .i64 m):=(hb3.cell (by show 0 < _;omega)).trans HM.out
 have hE:=aO1 v 258 #[.pointer (some ⟨w.heap.size+2,0,none⟩)] (E4 n) HE.out ls w3 B (by have:=hb3.size;omega) (D5 Ho.out hb3) hl hsz
  (fun g hg=>by
   obtain⟨h1,h2⟩:=Ho.out.lt g hg
   exact bB2 w3 (some g) (w.heap.size+2) n m hn1 hn2 hc3 (by intro e;cases e;omega) hm3 (by intro e;cases e;omega))
 have HB3:Hid _:=hb3;clear hw3 hb3 hc3 hm3;go_wp2_with fail;refine hE.mono ?_;rintro e w1⟨r,rfl,hr1,Bm⟩;have R:Hid _:=hr1;have HB:Hid (Below B w w1):=((HB3.out.mono hB).trans Bm);clear hr1 Bm hE;go_wp2_with fail;go_ret;exact⟨_,rfl,R.out,HB.out⟩
theorem bB6 (sx:ByteArray) (n:Int) (ao:Option Addr) (L cap:Nat) (w:World) (hL:L<=300000) (htab:∀W,Bq w W->Lib.TabIs prog W "internal/strconv.uint64pow10" .u64 Lib.pow10Tab) :
 Calls prog 157 #[.agg #[.int .i64 8,.string sx,.int .i64 n],.slice ao L cap] w fun e w'=>∃r,e=.returned r/\Reads w' r 1 [S (Lib.itoa (L:Int))]/\Bq w w':=by
 have hsf:=fun(a:Addr)(c:Array Value)(w:World)=>run_store prog w a (.func (.func 203) #[] c) .plain rfl;have hI:=fun(W:World)(h:Bq w W)=>Tryz.strconv_Itoa L (by omega) (by omega) W (htab W h);obtain⟨t,ht⟩:=qE (Lib.itoa (L:Int));rw[<- ht]at hI ⊢;have HI:Hid _:=hI;clear htab hI ht;go_enter Tryz.func157,Tryz.ntmps157;go_wp2_with fail;refine (HI.out _ A9).mono ?_;rintro e w1⟨rfl,q,os,hw1⟩;have HB:Hid (Bq w w1):=by rw[hw1];exact A9.trans (ao4 _ _ (by simp;omega))
 clear hw1;go_wp2_with fail;go_ret;exact⟨_,rfl,by simpa[S]using aq8 w1 #[S t] 9 (0,0) 1 rfl (by omega),HB.out.trans (((qI _ w1).alloc (qB _) _).mono HB.out.size)⟩
end Go.Proofs.YtllgglolcgdehaaGreatDoor
