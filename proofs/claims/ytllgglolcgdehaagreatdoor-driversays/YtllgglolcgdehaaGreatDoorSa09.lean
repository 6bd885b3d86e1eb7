/- What Put does, and more. -/
import Derived.Test.YtllgglolcgdehaaGreatDoorSAb
import Derived.Shelf.Strings.SlTrimAscii
import Derived.Lib.IndexBytes
import Derived.Lib.IndexLaws
import Derived.Maps.Own
import Derived.Maps.OwnOps
import Derived.Maps.Views
import Derived.Maps.StringElems
import Derived.Test.YtllgglolcgdehaaGreatDoorSa08
set_option linter.all false
set_option maxRecDepth 100000
set_option maxHeartbeats 16000000
namespace Go.Proofs.YtllgglolcgdehaaGreatDoor
open Go.RowKit Go.Gs Tryz
def putT(fs:List SFile)(n b:List UInt8):List SFile × Int:=if fchk fs=0 then putS fs n b else ([],fchk fs)
theorem ck7{rows:List FRow}{p:Nat}{r:FRow}(hp:p<=rows.length):(insR rows p r)[p]? = some r:=by unfold insR;rw[qj (by rw[qL];omega),qL,ql hp,zE];rfl
theorem ca6{rows:List FRow}{p:Nat}{r r':FRow}(hp:p<=rows.length):((insR rows p r).set p r').map (·.1)=(rows.map (·.1)).take p++r'.1::(rows.map (·.1)).drop p:=by unfold insR;rw[zC _ _ (by rw[qL];omega),qL,ql hp,zE,List.set_cons_zero];simp[List.map_take,List.map_drop]
theorem aY7{w w':World}{B:Nat}{ty:TypeId}{res:List SFile × Int}{v:Value}{rows:List FRow}{e:Ending}{fs:List SFile}(h:FO w' B ty v rows)(hm:rows.map (·.1)=fs)(hr:res=(fs,0))(he:e=.returned (.tuple #[v,.int .i64 0]))(hb:Bq w w'):ak3 w res e w':=by subst hr;have hf:=h.files;rw[hm]at hf;obtain⟨ao,cap,hv,_⟩:=hf.shape;rw[hv]at he hf;exact⟨ao,cap,he,hf,hb⟩
theorem ca7(ao ab:Option Addr)(cap cb:Nat)(fs:List SFile)(n b:List UInt8)(w:World)(hf:j6 w (.slice ao fs.length cap) fs)(Ad:∀f∈fs,M9 f)(hb:Reads w (.slice ab b.length cb) b.length (b.map U))(hnl:n.length<=9223372036854775807):
 Calls prog 108 #[.slice ao fs.length cap,.string ⟨n.toArray⟩,.slice ab b.length cb] w fun e w'=>ak3 w (putT fs n b) e w':=by
 have HC:Hid _:=ac0 ao cap fs w hf Ad;have HF:=qH hf;have HBR:=qH hb;have hbl:=U9 hb;obtain⟨N,hN⟩:=qE fs.length;have HN:=qH hN;obtain⟨L,hL⟩:=qE b.length;have HL:=qH hL;obtain⟨iw,hiw⟩:=qE (isWord n);have HIW:=qH hiw;have HW:Hid _:=fun(W:World)=>bo4 n W hnl iw hiw.symm;obtain⟨nx,hnx⟩:=qE (⟨n.toArray⟩:ByteArray);have HNX:=qH hnx;obtain⟨ck,hck⟩:=qE (fchk fs);have HCK:=qH hck;rw[<- hN,<- hck]at HC;rw[<- hnx]at HW;rw[<- hN,<- hnx,<- hL];rw[<- hL]at hbl;clear hf Ad hb hnl hN hnx hck hL hiw;by_cases h0:ck=0
 .
  subst h0;have HPT:=qH (show putT fs n b=putS fs n b by unfold putT;rw[qF HCK.out.symm]);obtain⟨Em,hri⟩:=G2 HCK.out.symm;have HRI:Hid _:=hri;have HFI:Hid _:=fun(W:World)(hb:Bq w W)=>bf4 ao cap fs n W (HF.out.below hb) hri Em;have HCL:Hid _:=fun(W:World)(hb:Bq w W)=>aY4 ao cap fs W (HF.out.below hb) Em (fun f hf=>(J2 hri f hf).2);have HBC:Hid _:=fun(W:World)(hb:Bq w W)(h4:b.length<=100000)=>aD3 ab cb b W (HBR.out.below hb) h4;rw[<- HN.out,<- HNX.out]at HFI;rw[<- HN.out]at HCL;rw[<- HL.out]at HBC;rw[<- HN.out]at Em;have hpl:=aL6 fs n;obtain⟨p,hp⟩:=qE (I4 fs n);have HP:=qH hp;obtain⟨t,ht⟩:=qE (D3 fs n);have HT:=qH ht;rw[<- hp,<- ht]at HFI;rw[<- hp,<- HN.out]at hpl;clear hri hp ht
  cases iw with
  | false=>
   have HR:=qH (show putT fs n b=([],1) by rw[HPT.out];exact aY1 HIW.out.symm)
   clear HFI HCL HBC
   go_enter Tryz.func108,Tryz.ntmps108
   go_wp2_with fail
   refine qD HC.out ?_
   rintro e w1⟨rfl,hb1⟩
   have HB1:=qH hb1
   clear hb1 HC
   go_wp2_with fail
   refine qD (HW.out w1) ?_
   rintro e w2⟨rfl,hb2⟩
   have HB2:=qT HB1 hb2
   clear hb2 HW HB1
   go_wp2_with fail
   go_ret2
   exact E2 HR.out rfl HB2.out
  | true=>
   go_enter Tryz.func108,Tryz.ntmps108
   go_wp2_with fail
   refine qD HC.out ?_
   rintro e w1⟨rfl,hb1⟩
   have HB1:=qH hb1
   clear hb1 HC
   go_wp2_with fail
   refine qD (HW.out w1) ?_
   rintro e w2⟨rfl,hb2⟩
   have HB2:=qT HB1 hb2
   clear hb2 HW HB1
   go_wp2_with fail
   have hQ:=HFI.out w2 HB2.out
   refine qD hQ ?_
   rintro e w3⟨rfl,hb3⟩
   have HB3:=qT HB2 hb3
   clear hb3 hQ HFI HB2
   by_cases hl4:4000<L
   . have HR:=qH (show putT fs n b=([],2) by rw[HPT.out];exact aY2 HIW.out.symm (by have:=HL.out;omega))
     have hq:(4000:Int)<L:=by omega
     clear HCL HBC
     go_wp2_with fail
     go_ret2
     exact E2 HR.out rfl HB3.out
   .
    have hq:¬(4000:Int)<L:=by omega
    cases t with
    | true=>
     obtain⟨f,hfk,hfn⟩:=aq5 HT.out.symm
     have HPF:=qH (show putT fs n b=(fs.set p ⟨n,b⟩,0) by
      rw[HPT.out,bf1 HIW.out.symm (by have:=HL.out;omega) (by rw[aT7 b HRI.out HT.out.symm,<- HN.out];omega),aC5 b HRI.out HT.out.symm,HP.out])
     rw[<- HP.out]at hfk
     have hpN:p<N:=by have:=(gSm hfk).1;rw[HN.out];exact this
     have HFK:=qH hfk
     have HFN:=qH hfn
     clear hfk hfn
     go_wp2_with fail
     have hQ:=HCL.out w3 HB3.out
     refine qD hQ ?_
     rintro e w4⟨v',rows,rfl,hfo,Ba,hb4⟩
     have HB4:=qT HB3 hb4
     have HLR:rows.length=N:=by rw[HN.out,<- Ba,qM]
     obtain⟨g,cg,hv,hBg⟩:=hfo.form (by omega)
     rw[HLR]at hv
     subst hv
     have HFO:Hid _:=hfo
     have HM:Hid _:=Ba
     have HG:Hid (w.heap.size<=g):=qw HB3.out.size hBg
     clear hfo Ba hb4 hQ HCL HB3 hBg
     go_wp2_with fail
     have hQ:=HBC.out w4 HB4.out (by have:=HL.out;omega)
     refine qD hQ ?_
     rintro e w5⟨ar,cr,rfl,Tt,Bl,hb5⟩
     have HB5:=qT HB4 hb5
     have Lm:Hid (FO w5 w3.heap.size 83 (.slice (some ⟨g,0,none⟩) N cg) rows):=HFO.out.below hb5
     obtain⟨r,hr⟩:∃r,rows[p]? = some r:=⟨_,gEl (by omega)⟩
     have hrf:r.1=f:=by
      have h1:=HFK.out
      rw[<- HM.out,qQ,hr]at h1
      simpa using h1
     obtain⟨hd0,hd1,hdz⟩:=Lm.out.cells2 hr
     have hgl:=(HFO.out.own.lt g rfl).2
     have HGO:Hid (ac6 w5 (some g) (⟨n,b⟩,ar,L,cr)):=⟨HL.out,by show Reads w5 (.slice ar L cr) _ _;rw[HL.out]at Tt ⊢;exact Tt,fun _ a ha he=>by
      have:=Bl a ha
      injection he with he
      omega⟩
     have HFS:Hid _:=Lm.out.set hr (r':=(⟨n,b⟩,ar,L,cr)) (by show n=r.1.name;rw[hrf];exact HFN.out.symm) HGO.out
     have HMS:=qH (show (rows.set p (⟨n,b⟩,ar,L,cr)).map (·.1)=fs.set p ⟨n,b⟩ by rw[List.map_set,HM.out])
     clear hQ Tt Bl hb5 HBC hr hrf hgl hd0 HLR
     go_wp2_with fail
     go_ret2
     exact aY7 HFS.out HMS.out HPF.out rfl (HB5.out.setCell (p:=⟨g,p*2+1,none⟩) HG.out _)
    | false=>
     by_cases Sv:N=12
     . have HR:=qH (show putT fs n b=([],2) by rw[HPT.out];exact aY3 HIW.out.symm (by have:=HL.out;omega) (by rw[aF5 b HRI.out HT.out.symm,<- HN.out];omega))
       subst Sv
       clear HCL HBC
       go_wp2_with fail
       go_ret2
       exact E2 HR.out rfl HB3.out
     .
      have hqN:¬(N:Int)=12:=by omega
      have hdd:(decide ((4000:Int)<(L:Int)) || ((N:Int)==12))=false:=by simp[hq,hqN]
      have HPF:=qH (show putT fs n b=(fs.take p++⟨n,b⟩::fs.drop p,0) by
       rw[HPT.out,bf1 HIW.out.symm (by have:=HL.out;omega) (by rw[aF5 b HRI.out HT.out.symm,<- HN.out];omega),be1 b HRI.out HT.out.symm,HP.out])
      go_wp2_with fail
      have hQ:=HCL.out w3 HB3.out
      refine qD hQ ?_
      rintro e w4⟨v',rows,rfl,hfo,Ba,hb4⟩
      have HB4:=qT HB3 hb4
      have HLR:rows.length=N:=by rw[HN.out,<- Ba,qM]
      obtain⟨av,cv,hv,_,_⟩:=hfo.shape
      rw[HLR]at hv
      subst hv
      have HFO:Hid _:=hfo
      have HM:Hid _:=Ba
      have HS34:Hid (w3.heap.size<=w4.heap.size):=hb4.size
      have HW3:Hid (w.heap.size<=w3.heap.size):=HB3.out.size
      have HIN:Hid _:=fun(W:World)(hFW:FO W w3.heap.size 83 (.slice av N cv) rows)=>bP2 (.slice av N cv) rows p (⟨n,[]⟩,none,0,0) w4.heap.size w3.heap.size W hFW (by omega) (by omega)
      clear hfo Ba hb4 hQ HCL HB3
      go_wp2_with fail
      have Tu:Bq w4 (w4.alloc (.cells #[.string nx,.slice none 0 0] 83)):=C5
      have hQ:=HIN.out _ (HFO.out.below Tu) (by simp;exact zk HS34.out) (fun e=>by
       have:=(HFO.out.own.lt _ e).2
       omega) (by rw[HNX.out];exact qN w4 _) (bA4 n)
      refine qD hQ ?_
      rintro e w5⟨v5,rfl,Tv,hb5⟩
      have HB5:Hid (Bq w w5):=(qT HB4 Tu).out.trans (hb5.mono HW3.out)
      have hil:=O8 rows p ((⟨n,[]⟩,none,0,0):FRow) (by omega)
      obtain⟨g,cg,hv,hBg⟩:=Tv.form (by omega)
      rw[hil,HLR]at hv
      subst hv
      have Lm:Hid _:=Tv
      have HG:Hid (w.heap.size<=g):=qw HW3.out hBg
      have Xg:=qH HLR
      clear hQ hb5 Tv Tu HIN HFO hil hBg HLR
      go_wp2_with fail
      have hQ:=HBC.out w5 HB5.out (by have:=HL.out;omega)
      refine qD hQ ?_
      rintro e w6⟨ar,cr,rfl,Jt,Bl,hb6⟩
      have HB6:=qT HB5 hb6
      have Xh:Hid (FO w6 w3.heap.size 83 (.slice (some ⟨g,0,none⟩) (N+1) cg) (insR rows p (⟨n,[]⟩,none,0,0))):=Lm.out.below hb6
      have hr:=ck7 (rows:=rows) (p:=p) (r:=(⟨n,[]⟩,none,0,0)) (by have:=Xg.out;omega)
      obtain⟨hd0,hd1,hdz⟩:=Xh.out.cells2 hr
      have hgl:=(Lm.out.own.lt g rfl).2
      have HGO:Hid (ac6 w6 (some g) (⟨n,b⟩,ar,L,cr)):=⟨HL.out,by show Reads w6 (.slice ar L cr) _ _;rw[HL.out]at Jt ⊢;exact Jt,fun _ a ha he=>by
       have:=Bl a ha
       injection he with he
       omega⟩
      have HFS:Hid _:=Xh.out.set hr (r':=(⟨n,b⟩,ar,L,cr)) rfl HGO.out
      have HMS:=qH (show ((insR rows p (⟨n,[]⟩,none,0,0)).set p (⟨n,b⟩,ar,L,cr)).map (·.1)=fs.take p++⟨n,b⟩::fs.drop p by rw[ca6 (by have:=Xg.out;omega),HM.out])
      clear hQ Jt Bl hb6 HBC hr hgl hd0
      go_wp2_with fail
      go_ret2
      exact aY7 HFS.out HMS.out HPF.out rfl (HB6.out.setCell (p:=⟨g,p*2+1,none⟩) HG.out _)
 . have HR:=qH (show putT fs n b=([],ck) by unfold putT;rw[<- HCK.out,qA h0]);clear HW;go_enter Tryz.func108,Tryz.ntmps108;go_wp2_with fail;refine qD HC.out ?_;rintro e w1⟨rfl,hb1⟩;have HB1:=qH hb1;clear hb1 HC;go_wp2_with fail;go_ret2;exact E2 HR.out rfl HB1.out
theorem aD8{w:World}{ao:Option Addr}{n cap:Nat}{ls:List SLine}(h:I0 w (.slice ao n cap) ls):n<=cap/\cap<=9223372036854775807:=by obtain⟨_,c,e,h1,h2⟩:=h.shape;unfold maxLen at h2;injection e with e1 e2 e3;omega
theorem bC0{fs:List SFile}{ls:List SLine}(h:fchk fs≠0):runS fs ls=([],fchk fs):=by unfold runS;rw[qA h]
theorem ca8{fs:List SFile}{ls:List SLine}(h:fchk fs=0)(h2:schk ls≠0):runS fs ls=([],schk ls):=by unfold runS;rw[qF h,qA h2]
theorem ck8{fs:List SFile}{ls:List SLine}(h:fchk fs=0)(h2:schk ls=0):runS fs ls=runL fs ls:=by unfold runS;rw[qF h,qF h2]
theorem drop_at{α:Type}{ls:List α}{k:Nat}{x:α}(h:ls[k]? = some x):ls.drop k=x::ls.drop (k+1):=by obtain⟨hk,e⟩:=gSm h;rw[<- e,<- qh hk]
theorem bC1{n:List UInt8}(h:isWord n=true):n.length<=9223372036854775807:=by unfold isWord at h;simp at h;omega
theorem right_fits{fs:List SFile}(h:fchk fs=0):∀f∈fs,M9 f:=fun f hf=>bC1 (J2 (G2 h).2 f hf).1
theorem az2{fs:List SFile}{x:SLine}(h:lchk x=0)(h2:fchk fs=0):ac9 fs x=m9 fs x:=by unfold ac9;rw[qF h,qF h2]
theorem aY8{fs:List SFile}{n b:List UInt8}(h:fchk fs=0):putT fs n b=putS fs n b:=by unfold putT;rw[qF h]
theorem bP8{fs:List SFile}{x:SLine}{r:List SLine}(h:(m9 fs x).2≠0):runL fs (x::r)=([],(m9 fs x).2):=by rw[runL,qA h]
theorem ca9{fs:List SFile}{x:SLine}{r:List SLine}(h:(m9 fs x).2=0)(h2:(putS fs x.tu (m9 fs x).1).2≠0):runL fs (x::r)=([],(putS fs x.tu (m9 fs x).1).2):=by rw[runL,qF h,qA h2]
theorem ck9{fs:List SFile}{x:SLine}{r:List SLine}(h:(m9 fs x).2=0)(h2:(putS fs x.tu (m9 fs x).1).2=0):runL fs (x::r)=runL (putS fs x.tu (m9 fs x).1).1 r:=by rw[runL,qF h,qF h2]
theorem cp6(ao al:Option Addr)(cap cl:Nat)(fs:List SFile)(ls:List SLine)(w:World)(hf:j6 w (.slice ao fs.length cap) fs)(Ad:∀f∈fs,M9 f)(hl:I0 w (.slice al ls.length cl) ls)(hfl:∀x∈ls,M3 x)(hK:V2 w):
 Calls prog 53 #[.slice ao fs.length cap,.slice al ls.length cl] w fun e w'=>ak3 w (runS fs ls) e w':=by
 have HC:Hid _:=ac0 ao cap fs w hf Ad;have HF:=qH hf;have HSC:Hid _:=fun(W:World)(hb:Bq w W)=>aX7 al cl ls W (hl.below hb) hfl;have HL:=qH hl;have HFL:Hid _:=hfl;have HK:=qH hK;have hle:=aD8 hl;obtain⟨N,hN⟩:=qE fs.length;have HN:=qH hN;obtain⟨M,hM⟩:=qE ls.length;have HM:=qH hM;obtain⟨ck,hck⟩:=qE (fchk fs);have HCK:=qH hck;obtain⟨sk,hsk⟩:=qE (schk ls);have HSK:=qH hsk;rw[<- hN,<- hck]at HC;rw[<- hM,<- hsk]at HSC;rw[<- hM]at HL hle;rw[<- hN,<- hM];clear hf Ad hl hfl hK hN hM hck hsk;by_cases h0:ck=0
 .
  subst h0;by_cases h1:sk=0
  .
   subst h1;obtain⟨Em,hri⟩:=G2 HCK.out.symm;obtain⟨hm6,Ae⟩:=aC3 HSK.out.symm;rw[<- HM.out]at hm6;have Xi:Hid _:=Ae;have HCL:Hid _:=fun(W:World)(hb:Bq w W)=>aY4 ao cap fs W (HF.out.below hb) Em (fun f hf=>(J2 hri f hf).2);rw[<- HN.out]at HCL;have HRS:Hid (runS fs ls=runL fs ls):=ck8 HCK.out.symm HSK.out.symm;clear Em hri Ae;go_enter Tryz.func53,Tryz.ntmps53;go_wp2_with fail;refine qD HC.out ?_;rintro e w1⟨rfl,hb1⟩;have HB1:=qH hb1;clear hb1 HC;go_wp2_with fail;have hQ:=HSC.out w1 HB1.out;refine qD hQ ?_;rintro e w2⟨rfl,hb2⟩;have HB2:=qT HB1 hb2;clear hb2 hQ HSC HB1;go_wp2_with fail;have hQ:=HCL.out w2 HB2.out;refine qD hQ ?_;rintro e w3⟨v',rows,rfl,hfo,Ba,hb3⟩;have HB3:=qT HB2 hb3;have hff:=hfo.files;rw[Ba]at hff;obtain⟨a3,c3,rfl,_,_⟩:=hff.shape;have HF3:Hid _:=hff;clear hb3 hQ HCL HB2 hfo Ba hff
   go_wp2_with fail;go_loopw [8,27] (fun fv i wr=>∃k:Nat,∃cur:List SFile,∃ac cc nc,k<=M/\i=.int .i64 k/\fv=.slice ac nc cc/\Hid (nc=cur.length)/\Hid (j6 wr (.slice ac nc cc) cur)/\Hid (fchk cur=0)/\Hid (runL fs ls=runL cur (ls.drop k))/\Hid (Bq w wr)) (fun _ i _=>M-(intOf i).toNat)
   case atStart=>exact⟨0,fs,a3,c3,_,qP _,rfl,rfl,(show _=_ from rfl),HF3,HCK.out.symm,(show _=_ from rfl),HB3⟩
   case round=>
    clear HF3 HB3;obtain⟨k,cur,ac,cc,nc,hk,rfl,rfl,HNC,HRF,HRI,HRL,Aa⟩:=hrel;by_cases hlt:k<M
    .
     obtain⟨x,hx⟩:∃x,ls[k]? = some x:=⟨_,gEl (by have:=HM.out;omega)⟩;obtain⟨b,off,af,cf,ad,cd,rfl,hc0,hc1,hc2,hr,hd⟩:=(I0.below HL.out Aa.out).at hx;have hlx:=Xi.out x (mGt hx);have hfx:=HFL.out x (mGt hx);have HLI:Hid _:=fun(W:World)(hb:Bq wr W)=>ck6 x ac af ad cc cf cd cur W (by rw[<- HNC.out];exact HRF.out.below hb) (right_fits HRI.out) (hr.below hb) (hd.below hb) hfx ((HK.out.below Aa.out).below hb);rw[<- HNC.out,az2 hlx HRI.out]at HLI;have HPU:Hid _:=fun(W:World)(hb:Bq wr W)(ab:Option Addr)(cb:Nat)(hrb:Reads W (.slice ab (m9 cur x).1.length cb) (m9 cur x).1.length ((m9 cur x).1.map U))=>ca7 ac ab cc cb cur x.tu (m9 cur x).1 W (by rw[<- HNC.out];exact HRF.out.below hb) (right_fits HRI.out) hrb hfx.2.2;rw[<- HNC.out,aY8 HRI.out]at HPU;have HDR:Hid (ls.drop k=x::ls.drop (k+1)):=drop_at hx;obtain⟨le,Fo⟩:=qE ((m9 cur x).2)
     have HLE:=qH Fo;generalize (⟨x.tu.toArray⟩:ByteArray)=tx at *;generalize x.fr.length=NF at *;generalize x.cs.length=ND at *;clear hx hr hd hlx hfx Fo;go_wp2_with fail;have hQ:=HLI.out _ (C5 (w:=wr) (o:=.cells #[.slice af NF cf,.slice ad ND cd,.string tx] 56));refine qD hQ ?_;rintro e w4⟨ab,cb,rfl,hrb,hb4⟩;have Ln:Hid (Bq wr w4):=C5.trans (hb4.mono C5.size);have HB4:Hid (Bq w w4):=Aa.out.trans (Ln.out.mono Aa.out.size);have hx3:=aD2 hb4;have HRB:Hid _:=hrb;rw[<- HLE.out];by_cases Gt:le=0
     . subst Gt;obtain⟨pe,hpe⟩:=qE ((putS cur x.tu (m9 cur x).1).2);have HPE:=qH hpe;obtain⟨PN,hPN⟩:=qE ((m9 cur x).1.length);have hP:=HPU.out w4 Ln.out ab cb HRB.out;rw[<- hPN]at hP ⊢;have HP:Hid _:=hP;clear hb4 hQ HLI hrb hP HPU hPN hpe HRB hc0 hc1 hc2;go_wp2_with fail;refine qD HP.out ?_;rintro e w5⟨ar,cr,rfl,Ir,hb5⟩;have HB5:=qT HB4 hb5;have HR5:=qH Ir;rw[<- HPE.out];by_cases Lo:pe=0
       . subst Lo;have Tz:=qH (show runL fs ls=runL (putS cur x.tu (m9 cur x).1).1 (ls.drop (k+1)) by rw[HRL.out,HDR.out,ck9 HLE.out.symm HPE.out.symm]);have Ua:Hid (fchk (putS cur x.tu (m9 cur x).1).1=0):=aj7 HRI.out HPE.out.symm;obtain⟨QN,hQN⟩:=qE ((putS cur x.tu (m9 cur x).1).1.length);have HQN:=qH hQN;rw[<- hQN]at HR5 ⊢;clear hb5 HP Ir hQN hx3;go_wp2_with fail;go_roundw
         case rel=>exact⟨k+1,_,_,_,_,by omega,by go_num,rfl,HQN,HR5,Ua,Tz,HB5⟩
         case measure=>simp[intOf];omega
       . have HR:=qH (show runS fs ls=([],pe) by rw[HRS.out,HRL.out,HDR.out,ca9 HLE.out.symm (by rw[<- HPE.out];exact Lo),<- HPE.out]);generalize (putS cur x.tu (m9 cur x).1).1.length=QN at *;clear hb5 HP Ir hx3 HR5;go_wp2_with fail;go_ret2;exact E2 HR.out rfl HB5.out
     . have HR:=qH (show runS fs ls=([],le) by rw[HRS.out,HRL.out,HDR.out,bP8 (by rw[<- HLE.out];exact Gt),<- HLE.out]);generalize (m9 cur x).1.length=PN at *;clear hb4 hQ HLI hrb HPU HRB hc0 hc1 hc2;go_wp2_with fail;go_ret2;exact E2 HR.out rfl HB4.out
    . have HR:=qH (show runS fs ls=(cur,0) by rw[HRS.out,HRL.out,qt (by have:=HM.out;omega)];rfl);go_wp2_with fail;go_ret2;refine⟨ac,cc,?_,?_,Aa.out⟩
      . rw[HR.out,<- HNC.out];rfl
      . rw[HR.out];have:=HRF.out;rw[HNC.out]at this;exact this
  . have HR:=qH (show runS fs ls=([],sk) by rw[ca8 HCK.out.symm (by rw[<- HSK.out];exact h1),<- HSK.out]);go_enter Tryz.func53,Tryz.ntmps53;go_wp2_with fail;refine qD HC.out ?_;rintro e w1⟨rfl,hb1⟩;have HB1:=qH hb1;clear hb1 HC;go_wp2_with fail;have hQ:=HSC.out w1 HB1.out;refine qD hQ ?_;rintro e w2⟨rfl,hb2⟩;have HB2:=qT HB1 hb2;clear hb2 hQ HSC HB1;go_wp2_with fail;go_ret2;exact E2 HR.out rfl HB2.out
 . have HR:=qH (show runS fs ls=([],ck) by rw[bC0 (by rw[<- HCK.out];exact h0),<- HCK.out]);clear HSC;go_enter Tryz.func53,Tryz.ntmps53;go_wp2_with fail;refine qD HC.out ?_;rintro e w1⟨rfl,hb1⟩;have HB1:=qH hb1;clear hb1 HC;go_wp2_with fail;go_ret2;exact E2 HR.out rfl HB1.out
def q9(W room:Int)(n:Nat)(fs:List SFile)(l:SLine):List UInt8 × Int:=
 if (t8 l W).2≠0 then ([],(t8 l W).2) else if (o6 fs l.fr).2≠0 then ([],(o6 fs l.fr).2) else if room<1\/1000<room then ([],3) else if 40000<n then ([],2) else ((m9 fs l).1,0)
def P4(W room:Int)(n:Nat):List SFile->List SLine->List SFile × Int
 | l,[]=>(l,0)
 | l,x::r=>if (q9 W room n l x).2=0 then (if (putS l x.tu (q9 W room n l x).1).2=0 then P4 W room n (putS l x.tu (q9 W room n l x).1).1 r else ([],(putS l x.tu (q9 W room n l x).1).2)) else ([],(q9 W room n l x).2)
def K3(W room:Int)(n:Nat)(l:List SFile)(s:List SLine):List SFile × Int:=if fchk l=0 then (if schk s=0 then P4 W room n l s else ([],schk s)) else ([],fchk l)
theorem ak6{fs:List SFile}{fr:List (List UInt8)}(h:(o6 fs fr).2=0):fchk fs=0/\(gather fs fr).2=0:=by
 unfold o6 at h;split at h
 . rename_i h0;exact⟨h0,h⟩
 . rename_i h0;exact absurd h h0
theorem bC2{fs:List SFile}{l:SLine}{W:Int}(h1:(t8 l W).2=0)(h2:(o6 fs l.fr).2=0):sunk (t8 l W).1 fs=(m9 fs l).1:=by
 have hp:lchk l=0/\¬(W<1\/5<W):=by
  unfold t8 at h1;split at h1
  . rename_i h;exact absurd h1 h
  . split at h1
    . cases h1
    . rename_i h3 h4;exact⟨by simpa using h3,h4⟩
 obtain⟨hf,hg⟩:=ak6 h2;rw[ay5 hp.1 hp.2];have hw:1<=W.toNat/\W.toNat<=5:=by omega
 exact (bL6 hw hp.1 hg).1
theorem bC3{fs:List SFile}{l:SLine}{W room:Int}{n:Nat}(hW:1<=W/\W<=5)(hr:1<=room/\room<=1000)(hn:n<=40000):q9 W room n fs l=ac9 fs l:=by
 unfold q9 ac9;by_cases h1:lchk l=0
 .
  rw[ay5 h1 (by omega),qA (by simp),qF h1];unfold o6;by_cases h2:fchk fs=0
  . rw[qF h2,qF h2];by_cases h3:(gather fs l.fr).2=0
    . rw[qA (by simpa using h3),qA (by omega),qA (by omega)];unfold m9;rw[qF h3]
    . rw[qF h3];unfold m9;rw[qA h3]
  . rw[qA h2,qA h2,qF h2]
 . rw[aX5 h1,qF h1,qA h1]
theorem bp5{W room:Int}{n:Nat}(hW:1<=W/\W<=5)(hr:1<=room/\room<=1000)(hn:n<=40000):∀(s:List SLine)(l:List SFile),fchk l=0->(∀x∈s,lchk x=0)->P4 W room n l s=runL l s
 | [],l,hl,hs=>rfl
 | x::r,l,hl,hs=>by
  have e:q9 W room n l x=m9 l x:=by rw[bC3 hW hr hn,az2 (hs x (by simp)) hl]
  rw[P4,runL,e]
  split
  . split
    . rename_i h1 h2
      exact bp5 hW hr hn r _ (aj7 hl h2) (fun y hy=>hs y (by simp[hy]))
    . rfl
  . rfl
theorem bC4{W room:Int}{n:Nat}(hW:1<=W/\W<=5)(hr:1<=room/\room<=1000)(hn:n<=40000)(l:List SFile)(s:List SLine):K3 W room n l s=runS l s:=by
 unfold K3 runS;split
 .
  rename_i hl;split
  . rename_i hs;exact bp5 hW hr hn s l hl (aC3 hs).2
  . rfl
 . rfl
theorem aO8{W room:Int}{n:Nat}{fs:List SFile}{x:SLine}{r:List SLine}(h:(q9 W room n fs x).2≠0):P4 W room n fs (x::r)=([],(q9 W room n fs x).2):=by rw[P4,qA h]
theorem aY9{W room:Int}{n:Nat}{fs:List SFile}{x:SLine}{r:List SLine}(h:(q9 W room n fs x).2=0)(h2:(putS fs x.tu (q9 W room n fs x).1).2≠0):P4 W room n fs (x::r)=([],(putS fs x.tu (q9 W room n fs x).1).2):=by rw[P4,qF h,qA h2]
theorem bp6{W room:Int}{n:Nat}{fs:List SFile}{x:SLine}{r:List SLine}(h:(q9 W room n fs x).2=0)(h2:(putS fs x.tu (q9 W room n fs x).1).2=0):P4 W room n fs (x::r)=P4 W room n (putS fs x.tu (q9 W room n fs x).1).1 r:=by rw[P4,qF h,qF h2]
def cutset:List UInt8:=[97,98,99,100,101,102,103,104,105,106,107,108,109,110,111,112,113,114,115,116,117,118,119,120,121,122,48,49,50,51,52,53,54,55,56,57]
theorem cb0:∀n:Fin 256,cutset.contains (UInt8.ofNat n.val)=F9 (UInt8.ofNat n.val):=by decide +kernel
theorem cp8(c:UInt8):cutset.contains c=F9 c:=by have h:=cb0 ⟨c.toNat,c.toNat_lt⟩;simpa using h
theorem ag2(p:UInt8->Bool)(l:List UInt8):l.dropWhile p=[] ↔ ∀x∈l,p x=true:=by
 induction l with
 | nil=>simp
 | cons y l ih=>
  rw[List.dropWhile_cons]
  by_cases h:p y=true
  . rw[qF h,ih]
    simp[h]
  . rw[qA h]
    simp[h]
theorem aO9(p:UInt8->Bool)(l:List UInt8):∀y r,l.dropWhile p=y::r->p y=false:=by
 induction l with
 | nil=>intro y r h;cases h
 | cons x l ih=>
  intro y r h
  rw[List.dropWhile_cons]at h
  by_cases hx:p x=true
  . rw[qF hx]at h
    exact ih y r h
  . rw[qA hx]at h
    cases h
    simpa using hx
theorem cb1(l cs:List UInt8):(Lib.trimS l cs=[]) ↔ l.all (cs.contains ·)=true:=by
 unfold Lib.trimS Lib.trimLeftS Lib.trimRightS;rw[ag2,zS];constructor
 .
  intro h
  cases hd:l.reverse.dropWhile (cs.contains ·) with
  | nil=>
   rw[ag2]at hd
   intro x hx
   exact hd x (by simpa using hx)
  | cons y r=>
   have h3:=aO9 _ _ y r hd
   have h4:=h y (by rw[hd];simp)
   rw[h3]at h4
   cases h4
 .
  intro h x hx;have h2:l.reverse.dropWhile (cs.contains ·)=[]:=by rw[ag2];intro y hy;exact h y (by simpa using hy)
  rw[h2]at hx
  cases hx
theorem cb2(s:List UInt8):s.all (cutset.contains ·)=s.all F9:=by congr 1;funext c;exact cp8 c
theorem bP9(s:List UInt8)(w:World)(hsz:s.length<=9223372036854775807):
 Calls prog 129 #[.string ⟨s.toArray⟩,.string ⟨cutset.toArray⟩] w fun e w'=>∃t:List UInt8,e=.returned (.string ⟨t.toArray⟩)/\t.isEmpty=s.all F9/\Bq w w':=by refine (Any.strings_Trim_laid Tryz.lays160 (by kernel_rfl) ⟨s.toArray⟩ ⟨cutset.toArray⟩ w (by simpa[ByteArray.size]using hsz) (by decide) (ascii_of_all (by decide))).mono ?_;rintro e w'⟨rfl,hb⟩;refine⟨_,rfl,?_,hb⟩;rw[<- cb2];rw[Bool.eq_iff_iff,xC];exact cb1 s cutset
theorem P6(s:List UInt8)(w:World)(hsz:s.length<=9223372036854775807)(d:Bool)(hd:isWord s=d):
 Calls prog 75 #[.string ⟨s.toArray⟩] w fun e w'=>e=.returned (.bool d)/\Bq w w':=by
 by_cases h0:0<s.length
 .
  by_cases h12:s.length<=12
  . have hd':s.all F9=d:=by rw[<- hd];simp[isWord,h0,h12]
    have Hd:Hid _:=hd';clear hd hd';go_enter Tryz.func75,Tryz.ntmps75;go_wp2_with fail;refine (bP9 s _ hsz).mono ?_;rintro e w'⟨t,rfl,ht,hb⟩;rw[Hd.out]at ht;go_wp2_with fail;go_ret;exact⟨rfl,hb⟩
  . have hd':d=false:=by rw[<- hd];simp[isWord,h12]
    subst hd';clear hd;go_enter Tryz.func75,Tryz.ntmps75;go_wp2_with fail;go_ret;exact⟨rfl,qI _ _⟩
 . have hd':d=false:=by rw[<- hd];simp[isWord,h0]
   subst hd';clear hd;go_enter Tryz.func75,Tryz.ntmps75;go_wp2_with fail;go_ret;exact⟨rfl,qI _ _⟩
theorem bC5(ao:Option Addr)(cap:Nat)(fs:List SFile)(n:List UInt8)(w:World)(hf:j6 w (.slice ao fs.length cap) fs):
 Calls prog 110 #[.slice ao fs.length cap,.string ⟨n.toArray⟩] w fun e w'=>∃ab cb,e=.returned (.slice ab (q8 fs n).length cb)/\Reads w' (.slice ab (q8 fs n).length cb) (q8 fs n).length ((q8 fs n).map U)/\Bq w w':=by
 have hle:=Y2 hf;have HF:=qH hf;obtain⟨N,hN⟩:=qE fs.length;have HN:=qH hN;have hN1:N<=9223372036854775807:=by omega
 rw[<- hN]at HF ⊢;obtain⟨sx,hsx⟩:=qE (⟨n.toArray⟩:ByteArray);have HSX:=qH hsx;rw[<- hsx];clear hf hle hN hsx;go_enter Tryz.func110,Tryz.ntmps110;go_wp2_with fail;go_loopw [9] (fun i wr=>∃k:Nat,k<=N/\i=.int .i64 k/\Hid (Bq w wr)/\Hid (∀g∈fs.take k,g.name≠n)) (fun i _=>N-(intOf i).toNat)
 case atStart=>exact⟨0,qP _,rfl,qI _ _,(show ∀g∈fs.take 0,g.name≠n by simp)⟩
 case round=>
  obtain⟨k,hk,rfl,Aa,hno⟩:=hrel;by_cases hlt:k<N
  .
   obtain⟨f,hfk⟩:∃f,fs[k]? = some f:=⟨_,gEl (by have:=HN.out;omega)⟩;have HFK:=qH hfk;obtain⟨b,off,ab,cb,rfl,hc0,hc1,hr⟩:=(j6.below HF.out Aa.out).at hfk;have HR:=qH hr;have hse:=ay6 f.name n;rw[<- HSX.out]at hse;by_cases hfn:f.name=n
   . have HFO:Hid (q8 fs n=f.b):=bN1 hfk hfn hno.out;have Lp:((⟨f.name.toArray⟩:ByteArray).toList==sx.toList)=true:=by rw[hse];simpa using hfn
     generalize (⟨f.name.toArray⟩:ByteArray)=fx at *;obtain⟨L,hL⟩:=qE f.b.length;have HL:=qH hL;rw[<- hL]at hc1;clear hfk hr hse hfn hno hL;go_wp2_with fail;go_ret;refine⟨ab,cb,?_,?_,Aa.out.alloc Aa.out.size _⟩
     . rw[HFO.out,<- HL.out];rfl
     . rw[HFO.out];exact Reads.below HR.out C5
   .
    have HNo:Hid (∀g∈fs.take (k+1),g.name≠n):=(show ∀g∈fs.take (k+1),g.name≠n from by
     intro g hg
     rw[qX,hfk]at hg
     simp only[xa,xB,xI]at hg
     rcases hg with hg | rfl
     . exact hno.out g hg
     . exact hfn)
    have Lp:((⟨f.name.toArray⟩:ByteArray).toList==sx.toList)=false:=by rw[hse];simpa using hfn
    generalize (⟨f.name.toArray⟩:ByteArray)=fx at *;obtain⟨L,hL⟩:=qE f.b.length;rw[<- hL]at hc1;clear hfk hr hse hfn hno hL;go_wp2_with fail;go_roundw
    case rel=>exact⟨k+1,by omega,by go_num,Aa.out.alloc Aa.out.size _,HNo⟩
    case measure=>simp[intOf];omega
  .
   have HFO:Hid (q8 fs n=[]):=bN2 (by
    have e:=hno.out
    rw[qO (by have:=HN.out;omega)]at e
    exact e)
   clear hno;go_wp2_with fail;go_ret;refine⟨none,0,by rw[HFO.out];rfl,?_,Aa.out⟩;rw[HFO.out];exact⟨rfl,none,0,rfl,qB _,by simp[maxLen],fun h=>absurd rfl h⟩
end Go.Proofs.YtllgglolcgdehaaGreatDoor
namespace Go.Gs
open Go.RowKit
def pieces(cur:List UInt8):List UInt8->List (List UInt8)
 | []=>[cur]
 | c::r=>if c=10 then cur::pieces [] r else pieces (cur++[c]) r
theorem bp7(s:List UInt8):∀cur,(10:UInt8)∉s->pieces cur s=[cur++s]:=by
 induction s with
 | nil=>intro cur _;simp[pieces]
 | cons c s ih=>
  intro cur h
  simp only[xP,not_or]at h
  rw[pieces,qA (fun e=>h.1 e.symm),ih _ h.2]
  simp
theorem bp8(s:List UInt8):∀(cur r:List UInt8),(10:UInt8)∉s->pieces cur (s++10::r)=(cur++s)::pieces [] r:=by
 induction s with
 | nil=>intro cur r _;simp[pieces]
 | cons c s ih=>
  intro cur r h
  simp only[xP,not_or]at h
  rw[zG,pieces,qA (fun e=>h.1 e.symm),ih _ _ h.2]
  simp
theorem ai3(s:List UInt8):∀cur,pieces cur s≠[]:=by
 induction s with
 | nil=>intro cur;simp[pieces]
 | cons c s ih=>intro cur;unfold pieces;split;simp;exact ih _
theorem bf8(s:List UInt8):∀cur,l7 cur s=if (pieces cur s).getLast (ai3 s cur)=[] then (pieces cur s).dropLast else pieces cur s:=by
 induction s with
 | nil=>intro cur;simp[pieces,l7]
 | cons c s ih=>
  intro cur
  by_cases hc:c=10
  . have e:pieces cur (c::s)=cur::pieces [] s:=by rw[pieces,qF hc]
    have el:l7 cur (c::s)=cur::l7 [] s:=by rw[l7,qF hc]
    simp only[e,el]
    rw[List.getLast_cons (ai3 s []),List.dropLast_cons_of_ne_nil (ai3 s []),ih []]
    split <;> rfl
  . have e:pieces cur (c::s)=pieces (cur++[c]) s:=by rw[pieces,qA hc]
    have el:l7 cur (c::s)=l7 (cur++[c]) s:=by rw[l7,qA hc]
    simp only[e,el]
    exact ih _
theorem aU4:∀(k:Nat)(s:List UInt8),s.count 10=k->Lib.splitK [10] 0 k s=pieces [] s:=by
 intro k
 induction k with
 | zero=>
  intro s h
  have hn:(10:UInt8)∉s:=List.count_eq_zero.1 h
  rw[bp7 s [] hn]
  rfl
 | succ k ih=>
  intro s h
  have hm:(10:UInt8)∈s:=List.count_pos_iff.1 (by omega)
  unfold Lib.splitK
  rw[Lib.index_one]
  have hge:=Lib.indexByte_ge s 10
  by_cases hi:Lib.indexByte s 10 = -1
  . exfalso
    obtain⟨j,hj⟩:=List.mem_iff_getElem?.1 hm
    exact Lib.indexByte_none hi j hj
  .
   obtain⟨i,hii⟩:=xW (show 0<=Lib.indexByte s 10 by omega)
   obtain⟨hs,Ub⟩:=Lib.indexByte_some hii
   have hb:(Lib.indexByte s 10 == -1)=false:=by simp[hi]
   rw[hb,hii]
   simp only[Bool.false_eq_true,if_false,Nat.add_zero,qY,qy,qa]
   show s.take ((i:Int).toNat)::Lib.splitK [10] 0 k (s.drop ((i:Int).toNat+1))=_
   rw[qq]
   obtain⟨hlt,hsi⟩:=gSm hs
   have hcut:s=s.take i++10::s.drop (i+1):=by
    conv=>lhs;rw[<- qk i s,qh hlt,hsi]
   have hno:(10:UInt8)∉s.take i:=by
    intro hmem
    obtain⟨j,hj⟩:=List.mem_iff_getElem?.1 hmem
    rw[xR]at hj
    split at hj
    . exact Ub j (by omega) hj
    . cases hj
   have Aw:(s.drop (i+1)).count 10=k:=by
    rw[hcut,List.count_append,List.count_cons_self,List.count_eq_zero.2 hno]at h
    omega
   rw[ih _ Aw]
   conv=>rhs;rw[hcut,bp8 _ _ _ hno]
   simp
theorem aP0(ls:List (List UInt8))(h:ls≠[]):Lib.join ls [10]++[10]=ended ls:=by
 cases ls with
 | nil=>exact absurd rfl h
 | cons x r=>
  rw[Lib.join_cons]
  clear h
  induction r generalizing x with
  | nil=>simp[Lib.joinTail,ended]
  | cons y r ih=>
   have:=ih y
   rw[C7,<- this]
   simp[Lib.joinTail]
end Go.Gs
namespace Go.Proofs.YtllgglolcgdehaaGreatDoor
open Go.RowKit Go.Gs Tryz
theorem bC6(bs:List UInt8)(w:World)(hsh:w.ShapedOpen prog)(hle:bs.length<=900000):
 Calls prog 136 #[.string ⟨bs.toArray⟩,.string ⟨#[10]⟩] w fun e w'=>
  e=.returned (.slice (some ⟨w.heap.size,0,none⟩) (pieces [] bs).length (pieces [] bs).length)/\w'=w.alloc (.cells ((pieces [] bs).map S).toArray 9):=by
 have Aw:Lib.countB ⟨bs.toArray⟩ ⟨#[10]⟩=bs.count 10:=by show Lib.count _ _=_;exact Lib.count_one 10 bs
 have hp:(Lib.splitB ⟨#[10]⟩ 0 (Lib.countB ⟨bs.toArray⟩ ⟨#[10]⟩) ⟨bs.toArray⟩).map (·.data.toList)=pieces [] bs:=by rw[Lib.splitB_data];exact aU4 _ bs Aw.symm
 have hlen:Lib.countB ⟨bs.toArray⟩ ⟨#[10]⟩+1=(pieces [] bs).length:=by have h1:=Lib.splitB_all ⟨#[10]⟩ (by decide) 0 _ ⟨bs.toArray⟩ rfl;rw[<- hp,qM,h1]
 refine (Tryz.strings_Split_shaped ⟨bs.toArray⟩ ⟨#[10]⟩ w hsh (by simp[ByteArray.size];omega) (by decide)).mono ?_;rintro e w'⟨rfl,rfl⟩;rw[hlen,aX1,hp];exact⟨rfl,rfl⟩
theorem cb3(bs:List UInt8)(x:List UInt8)(hx:(pieces [] bs).getLast (ai3 bs [])=x):(x=[]->lines bs=(pieces [] bs).dropLast)/\(x≠[]->lines bs=pieces [] bs):=by
 have:=bf8 bs [];rw[hx]at this;constructor
 . intro e;rw[qF e]at this;exact this
 . intro e;rw[qA e]at this;exact this
theorem as9(s:List UInt8):∀cur,(pieces cur s).length<=s.length+1:=by
 induction s with
 | nil=>intro cur;simp[pieces]
 | cons c s ih=>intro cur;unfold pieces;split;simp;exact ih _;have:=ih (cur++[c]);simp;omega
theorem aG4(bs:List UInt8)(w:World)(hsh:w.ShapedOpen prog)(hle:bs.length<=900000)(P:List (List UInt8))(hP:pieces [] bs=P)(x:List UInt8)(hx:P[P.length-1]? = some x):
 Calls prog 136 #[.string ⟨bs.toArray⟩,.string ⟨#[10]⟩] w fun e w'=>
  ∃g,e=.returned (.slice (some ⟨g,0,none⟩) P.length P.length)/\w'.cell? ⟨g,P.length-1,none⟩=some (.string ⟨x.toArray⟩) /\
   Reads w' (.slice (some ⟨g,0,none⟩) P.length P.length) P.length (P.map S)/\Bq w w':=by have hpl:=as9 bs [];rw[hP]at hpl;refine (bC6 bs w hsh hle).mono ?_;rintro e w'⟨rfl,rfl⟩;rw[hP];refine⟨w.heap.size,rfl,?_,by simpa using aq8 w (P.map S).toArray 9 (0,0) P.length (by simp) (by omega),(qI _ w).alloc (qB _) _⟩;rw[qV _ _ _ _ _ _ (qN w _)];simp[hx,S]
theorem bJ0(v:Value)(bs:List UInt8)(w:World)(hr:Reads w v bs.length (bs.map U))(hsh:w.ShapedOpen prog)(hle:bs.length<=900000):
 Calls prog 86 #[v] w fun e w'=>∃g cap,e=.returned (.slice (some ⟨g,0,none⟩) (lines bs).length cap) /\
  Reads w' (.slice (some ⟨g,0,none⟩) (lines bs).length cap) (lines bs).length ((lines bs).map S)/\Bq w w':=by
 have Ep:=ah6 hr;have hpn:=ai3 bs [];have hLE:=cb3 bs _ rfl;have Bz:(pieces [] bs)[(pieces [] bs).length-1]? = some ((pieces [] bs).getLast hpn):=by rw[List.getLast_eq_getElem];exact gEl _
 have hlen0:0<(pieces [] bs).length:=zK.2 hpn;have hlenm:(pieces [] bs).length<=1800000:=by have:=as9 bs [];omega
 generalize (pieces [] bs).getLast hpn=x at *;generalize hP:pieces [] bs=P at *;have HP:Hid _:=hP;have HL:Hid _:=Bz;clear hP Bz hpn;by_cases hx:x=[]
 .
  subst hx;have Hl:Hid _:=hLE.1 rfl;clear hLE;go_enter Tryz.func86,Tryz.ntmps86;go_wp2_with fail;refine (aG4 bs _ hsh hle P HP.out _ HL.out).mono ?_;rintro e w1⟨g,rfl,Ac,hrd,Aa⟩;clear Ep;have R:Hid (Reads w1 (.slice (some ⟨g,0,none⟩) (P.length-1) P.length) (lines bs).length ((lines bs).map S)/\(lines bs).length=P.length-1):=by
   have h1:=aM3 hrd (show P.length-1<=P.length by omega);have h2:(lines bs).length=P.length-1:=by rw[Hl.out];simp
   refine⟨?_,h2⟩;rw[h2,Hl.out,List.dropLast_eq_take,List.map_take];exact h1
  clear hrd;go_wp2_with fail;go_ret;refine⟨g,P.length,?_,?_,Aa⟩
  . rw[R.out.2];simp
  . rw[R.out.2];have:=R.out.1;rw[R.out.2]at this;exact this
 . have hxe:x.isEmpty=false:=by simp[hx]
   have Hl:Hid _:=hLE.2 hx;clear hLE hx;go_enter Tryz.func86,Tryz.ntmps86;go_wp2_with fail;refine (aG4 bs _ hsh hle P HP.out _ HL.out).mono ?_;rintro e w1⟨g,rfl,Ac,hrd,Aa⟩;clear Ep;have R:Hid _:=hrd;clear hrd;go_wp2_with fail;go_ret;rw[<- Hl.out]at R;refine⟨g,_,?_,R.out,Aa⟩;rw[Hl.out];rfl
theorem bC7(v:Value)(ls:List (List UInt8))(w:World)(hr:Reads w v ls.length (ls.map S))(hle:(ended ls).length<=900000):
 Calls prog 134 #[v,.string ⟨#[10]⟩] w fun e w'=>e=.returned (.string ⟨(Lib.join ls [10]).toArray⟩)/\Bq w w':=by
 obtain⟨_,ao,cap,rfl,h2,h3,h4⟩:=hr;by_cases h0:ls.length=0
 . have hb:ls=[]:=qi h0;subst hb;refine (Tryz.strings_Join_none ao cap _ w).mono ?_;rintro e w'⟨rfl,rfl⟩;exact⟨rfl,qI _ _⟩
 .
  obtain⟨b,off,rfl,hc⟩:=h4 h0;have hne:ls≠[]:=fun e=>h0 (by rw[e];rfl);have hj:(Lib.join ls [10]).length<=900000:=by
   have:=aP0 ls hne;have h5:(Lib.join ls [10]++[10]).length<=900000:=by rw[this];exact hle
   simp at h5;omega
  have hm:(ls.map str).map (·.data.toList)=ls:=by
   rw[xh];conv=>rhs;rw[<- List.map_id ls]
   apply zJ;intro l _;simp[str]
  have hlen:=T8 ls;have Ah:=hc 0 (S (ls[0]'(by omega))) (by simp[Nat.pos_of_ne_zero h0]);have hcs:∀(j:Nat) x,(ls.map str)[j]? = some x->w.cell? ⟨b,off+j,none⟩=some (.string x):=by intro j x hx;rw[qQ]at hx;obtain⟨l,hl,rfl⟩:=Option.map_eq_some_iff.1 hx;exact hc j (S l) (by simp[hl])
  have:=Tryz.strings_Join b off cap (ls.map str) ⟨#[10]⟩ w hcs (bLt w _ Ah) (by simp;omega) (by simpa using h2) (by rw[hm];show (Lib.join ls [10]).length<=_;omega);rw[hm]at this;simp only[qM]at this;exact this
theorem bQ0(J:List UInt8):((⟨J.toArray⟩:ByteArray)++⟨#[10]⟩).data.toList=J++[10]:=by simp[ByteArray.data_append]
theorem aZ0(J:List UInt8):((⟨J.toArray⟩:ByteArray)++⟨#[10]⟩).size=J.length+1:=by rw[ByteArray.size_append];rfl
theorem bf9(ao:Option Addr)(cap:Nat)(w:World):
 Calls prog 84 #[.slice ao 0 cap] w fun e w'=>∃c,e=.returned (.slice (some ⟨w.heap.size,0,none⟩) 0 c)/\c<=maxLen/\Bq w w':=by have hcv:=fun(W:World)=>run_bytes_of_string (P:=prog) W 9 28 5 ⟨#[]⟩ underlying9 underlying28 underlying5;go_enter Tryz.func84,Tryz.ntmps84;go_wp2_with fail;refine (Tryz.strings_Join_none ao cap _ _).mono ?_;rintro e w1⟨rfl,rfl⟩;go_wp2_with fail;go_ret;exact⟨_,rfl,zv _ _ _ _ (qP _),((qI _ _).alloc (qB _) _).drew⟩
theorem bg0(b off cap:Nat)(ls:List (List UInt8))(w:World)(h0:0<ls.length)(hm:ls.length<=900000)(hr:Reads w (.slice (some ⟨b,off,none⟩) ls.length cap) ls.length (ls.map S))(hle:(ended ls).length<=900000):
 Calls prog 84 #[.slice (some ⟨b,off,none⟩) ls.length cap] w fun e w'=>∃r,e=.returned r/\Reads w' r (ended ls).length ((ended ls).map U)/\Bq w w':=by
 have hcv:=fun(W:World)(s:ByteArray)=>run_bytes_of_string (P:=prog) W 9 28 5 s underlying9 underlying28 underlying5;have hE:=aP0 ls (zK.1 h0);generalize hJ:Lib.join ls [10]=J at *;have HJ:Hid _:=hJ;have HE:Hid _:=hE;have hJl:J.length+1<=900000:=by rw[<- hE]at hle;simpa using hle
 clear hJ hE;go_enter Tryz.func84,Tryz.ntmps84;go_wp2_with fail;refine (bC7 _ ls _ hr hle).mono ?_;rintro e w1⟨rfl,Aa⟩;rw[HJ.out];clear hr;go_wp2_with fail;go_ret;refine⟨_,rfl,?_,((Aa.alloc Aa.size _).drew)⟩;have h:=bm8 w1 (⟨J.toArray⟩++⟨#[10]⟩) (grownCap w1 (J.length+1) 0 5) ((bytesRow (⟨J.toArray⟩++⟨#[10]⟩) (grownCap w1 (J.length+1) 0 5)).size,(bytesRow (⟨J.toArray⟩++⟨#[10]⟩) (grownCap w1 (J.length+1) 0 5)).size+1) (by rw[aZ0];exact grownCap_ge _ _ _ _) (zv _ _ _ _ (by unfold maxLen;omega));have h':=h.below (qI _ _).drew;rw[aZ0,bQ0,HE.out]at h';have hl:(ended ls).length=J.length+1:=by rw[<- HE.out];simp
 rw[hl];exact h'
theorem bytesOf(v:Value)(ls:List (List UInt8))(w:World)(hr:Reads w v ls.length (ls.map S))(hle:(ended ls).length<=900000):
 Calls prog 84 #[v] w fun e w'=>∃r,e=.returned r/\Reads w' r (ended ls).length ((ended ls).map U)/\Bq w w':=by
 obtain⟨h1,ao,cap,rfl,h2,h3,h4⟩:=hr;by_cases h0:ls.length=0
 . have hb:ls=[]:=qi h0;subst hb;refine (bf9 ao cap w).mono ?_;rintro e w'⟨c,rfl,hc,Aa⟩;exact⟨_,rfl,⟨rfl,_,c,rfl,qP _,hc,fun h=>absurd rfl h⟩,Aa⟩
 . obtain⟨b,off,rfl,hc⟩:=h4 h0;exact bg0 b off cap ls w (by omega) (qw (T8 ls) hle) ⟨h1,_,cap,rfl,h2,h3,fun _=>⟨b,off,rfl,hc⟩⟩ hle
theorem cb4(v:Value)(bs:List UInt8)(w:World)(hr:Reads w v bs.length (bs.map U))(hsh:w.ShapedOpen prog)(hle:bs.length<=50000):
 Calls prog 109 #[v] w fun e w'=>∃r,e=.returned r/\Reads w' r (ended (lines bs)).length ((ended (lines bs)).map U)/\Bq w w':=by have hl:=C0 bs;have HR:=qH hr;clear hr;go_enter Tryz.func109,Tryz.ntmps109;go_wp2_with fail;refine (bJ0 v bs w HR.out hsh (by omega)).mono ?_;rintro e w1⟨g,cap,rfl,hr1,hb1⟩;have HR1:Hid _:=hr1;have HB1:Hid _:=hb1;clear hr1 hb1;go_wp2_with fail;refine (bytesOf _ (lines bs) w1 HR1.out (by omega)).mono ?_;rintro e w2⟨r2,rfl,hr2,hb2⟩;have HR2:Hid _:=hr2;have HB2:Hid (Bq w w2):=Below.trans HB1.out (Below.mono hb2 (Below.size HB1.out));clear hr2 hb2;go_wp2_with fail;go_ret;exact⟨_,rfl,HR2.out,HB2.out⟩
theorem cl0:(prog.info? 5).map (fun i=>(i.zero,i.size,i.bytes))=some (some (.int .u8 0),1,1):=by kernel_rfl
theorem cp9{bs:List UInt8}:∀u∈bs.map U,u.oneCell'=true:=by intro u hu;obtain⟨x,_,rfl⟩:=qg.1 hu;rfl
theorem cb5{α:Type}{ls:List α}{k:Nat}{x:α}(h:ls[k]? = some x):ls.drop k=x::ls.drop (k+1):=by obtain⟨hk,e⟩:=gSm h;rw[<- e,<- qh hk]
theorem bC8{fs:List SFile}(h:∀f∈fs,f.b.length<=4000)(n:List UInt8):(q8 fs n).length<=4000:=by
 unfold q8
 cases hf:fs.find? (fun f=>f.name==n) with
 | none=>simp
 | some f=>exact h f (zW hf)
def ak7(w:World)(res:List UInt8 × Int)(e:Ending)(w':World):Prop:=∃ar cr,e=.returned (.tuple #[.slice ar res.1.length cr,.int .i64 res.2])/\Reads w' (.slice ar res.1.length cr) res.1.length (res.1.map U)/\Bq w w'
theorem ae4{w w':World}{res:List UInt8 × Int}{e:Ending}{r:Int}(h:res=([],r))(he:e=.returned (.tuple #[.slice none 0 0,.int .i64 r]))(hb:Bq w w'):ak7 w res e w':=by subst h;exact⟨none,0,he,⟨rfl,none,0,rfl,qB _,by simp[maxLen],fun h=>absurd rfl h⟩,hb⟩
theorem az3(ao af:Option Addr)(cap cf:Nat)(fs:List SFile)(fr:List (List UInt8))(w:World)(hf:j6 w (.slice ao fs.length cap) fs)(h4:∀f∈fs,f.b.length<=4000)(hfr:Reads w (.slice af fr.length cf) fr.length (fr.map S))(hsh:w.ShapedOpen prog):
 Calls prog 49 #[.slice ao fs.length cap,.slice af fr.length cf] w fun e w'=>ak7 w (gather fs fr) e w':=by
 have HF:=qH hf;have HFR:=qH hfr;have HSH:Hid _:=hsh;have H4:Hid _:=h4;have hfl:=U9 hfr;obtain⟨N,hN⟩:=qE fs.length;have HN:=qH hN;obtain⟨L,hL⟩:=qE fr.length;have HL:=qH hL;rw[<- hN,<- hL];rw[<- hL]at hfl HFR;clear hf hfr hN hL hsh h4;by_cases hl4:4<L
 . have HR:=qH (show gather fs fr=([],2) by unfold gather;rw[qF (by have:=HL.out;omega)]);have hq:(4:Int)<L:=by omega
   go_enter Tryz.func49,Tryz.ntmps49;go_wp2_with fail;go_ret2;exact ae4 HR.out rfl (qI _ _)
 .
  have hq:¬(4:Int)<L:=by omega
  have HGA:=qH (show gather fs fr=M7 fs fr [] by unfold gather;rw[qA (by have:=HL.out;omega)]);obtain⟨i0,hi,hi0,hi1,hi2⟩:=info_parts cl0;go_enter Tryz.func49,Tryz.ntmps49;go_wp2_with fail;go_loopw [6,14] (fun ov i wr=>∃k:Nat,∃acc:List UInt8,∃al nl cl,k<=L/\i=.int .i64 k/\ov=.slice al nl cl/\nl<=4000/\Hid (nl=acc.length)/\Hid (wr.ownsRow w.heap.size 5 1 (.slice al nl cl) nl (acc.map U))/\Hid (gather fs fr=M7 fs (fr.drop k) acc)/\Hid (Bq w wr)) (fun _ i _=>L-(intOf i).toNat)
  case atStart=>exact⟨0,[],none,0,0,qP _,rfl,rfl,qP _,(show _=_ from rfl),World.ownsRow_nil _ _ _ _,HGA,qI _ _⟩
  case round=>
   obtain⟨k,acc,al,nl,cl,hk,rfl,rfl,hn4,HNL,HOW,HG,Aa⟩:=hrel;by_cases hlt:k<L
   .
    obtain⟨s,hs⟩:∃s,fr[k]? = some s:=⟨_,gEl (by have:=HL.out;omega)⟩;obtain⟨bf,of,rfl,hcs⟩:=(Reads.below HFR.out Aa.out).at hs;have HDR:Hid (fr.drop k=s::fr.drop (k+1)):=cb5 hs;have HFO:Hid _:=bC5 ao cap fs s wr (HF.out.below Aa.out);rw[<- HN.out]at HFO;obtain⟨FB,hFB⟩:=qE (q8 fs s);have HFB:=qH hFB;have hF4:FB.length<=4000:=by rw[hFB];exact bC8 H4.out s
    rw[<- hFB]at HFO;generalize (⟨s.toArray⟩:ByteArray)=sx at *;clear hs hFB;go_wp2_with fail;refine qD HFO.out ?_;rintro e w2⟨a2,c2,rfl,hr2,hb2⟩;have HB2:=qT Aa hb2;have HO2:Hid (w2.ownsRow w.heap.size 5 1 (.slice al nl cl) nl (acc.map U)):=D5 HOW.out hb2;have HWH:Hid _:=cb4 (.slice a2 FB.length c2) FB w2 hr2 (S7 HSH.out HB2.out) (by omega);have Xj:(ended (lines FB)).length<=4001:=by have:=C0 FB;omega
    have HE4':Hid _:=Xj;clear Xj;generalize FB.length=FL at *;clear hr2 hb2 HFO HOW hcs;go_wp2_with fail;refine qD HWH.out ?_;rintro e w3⟨r3,rfl,hr3,hb3⟩;have HB3:=qT HB2 hb3;have HO3:Hid (w3.ownsRow w.heap.size 5 1 (.slice al nl cl) nl (acc.map U)):=D5 HO2.out hb3;have HW3:Hid (w.heap.size<=w3.heap.size):=HB3.out.size;obtain⟨EB,hEB⟩:=qE (ended (lines FB));have HEB:=qH hEB;have hE4:EB.length<=4001:=by rw[hEB];exact HE4'.out
    rw[<- hEB]at hr3;obtain⟨a3,c3,rfl,_,_⟩:=hr3.shape;obtain⟨EN,hEN⟩:=qE EB.length;have HEN:=qH hEN;rw[<- hEN]at hr3 hE4 ⊢;have HRR:=qH hr3;have HGS:=qH (show gather fs fr=if 4000<(acc++EB).length then ([],2) else M7 fs (fr.drop (k+1)) (acc++EB) by rw[HG.out,HDR.out,M7,HEB.out,HFB.out]);clear hr3 hb3 HWH HO2 HB2 hEB hEN HG
    cases a3 with
    | none=>
     have hE0:EN=0:=by
      obtain⟨_,ao',cap',e,_,_,h4⟩:=HRR.out
      rcases za EN with h | h
      . exact h
      . obtain⟨b,off,e2,_⟩:=h4 (by omega)
        injection e with e1
        rw[<- e1]at e2
        cases e2
     subst hE0
     have Xk:EB=[]:=qi HEN.out.symm
     have HO9:=qH (show w3.ownsRow w.heap.size 5 1 (.slice al nl cl) nl ((acc++EB).map U) by rw[Xk,xH];exact HO3.out)
     have HB9:=qH HB3
     have HG2:=qH (show gather fs fr=M7 fs (fr.drop (k+1)) (acc++EB) by rw[HGS.out,qA (by rw[qG,<- HNL.out,<- HEN.out];omega)])
     have hqq:¬(4000:Int)<(nl:Int):=by omega
     clear HRR HGS Xk
     go_wp2_with (at_builtin;refine aM4 rfl (.tmp 18) (.tmp 22) 28 rfl w.heap.size 5 i0 1 c3 underlying28 hi _ nl (acc.map U) rfl HO3.out rfl ?_)
     go_roundw
     case rel=>exact⟨k+1,acc++EB,_,_,_,by omega,by go_num,rfl,by omega,(show _=_ by rw[qG,<- HNL.out,<- HEN.out];rfl),HO9,HG2,HB9⟩
     case measure=>simp[intOf];omega
    | some a=>
     have Ac:∀j u,(EB.map U)[j]? = some u->w3.cell? (a.add j)=some u:=by
      intro j u hj
      obtain⟨hll,ao',cap',e,_,_,h4⟩:=HRR.out
      have hj':=(gSm hj).1
      obtain⟨b,off,e2,hc⟩:=h4 (by omega)
      injection e with e1
      rw[<- e1]at e2
      injection e2 with e2
      subst e2
      rw[addF]
      exact hc j u hj
     have HC:Hid _:=Ac
     clear Ac HRR
     go_wp2_with (at_builtin;refine qx _ rfl (.tmp 18) (.tmp 22) 28 rfl w.heap.size 5 i0 (.int .u8 0) 1 1 underlying28 hi hi0 hi1 hi2 rfl (by decide) _ nl (acc.map U) rfl HO3.out a EN c3 (EB.map U) rfl ?c0 ?c1 ?c2 ?c3 ?c4 ?c5 ?_)
     case c0=>rw[qM,<- HEN.out,Nat.mul_one]
     case c1=>exact HC.out
     case c2=>exact cp9
     case c3=>unfold maxLen;omega
     case c4=>omega
     case c5=>exact HW3.out
     .
      intro v' w9 Ab Af _
      obtain⟨a9,c9,rfl⟩:∃a9 c9,v'=.slice a9 (nl+EN) c9:=by
       rcases Ab.2 with⟨rfl,h0⟩|⟨g',c',cur',rfl,_⟩
       . exact⟨none,0,by rw[h0]⟩
       . exact⟨_,c',rfl⟩
      have HO9:=qH (show w9.ownsRow w.heap.size 5 1 (.slice a9 (nl+EN) c9) (nl+EN) ((acc++EB).map U) by rw[qz];exact Ab)
      have HB9:Hid (Bq w w9):=HB3.out.grown Af HW3.out (fun q hq=>(HO3.out.lt q hq).1)
      clear Ab Af HO3 HC
      by_cases hbig:4000<nl+EN
      . have HR:=qH (show gather fs fr=([],2) by rw[HGS.out,qF (by rw[qG,<- HNL.out,<- HEN.out];omega)])
        have hqq:(4000:Int)<(nl:Int)+(EN:Int):=by omega
        go_wp2_with fail
        go_ret2
        exact ae4 HR.out rfl HB9.out
      . have HG2:=qH (show gather fs fr=M7 fs (fr.drop (k+1)) (acc++EB) by rw[HGS.out,qA (by rw[qG,<- HNL.out,<- HEN.out];omega)])
        have hqq:¬(4000:Int)<(nl:Int)+(EN:Int):=by omega
        go_wp2_with fail
        go_roundw
        case rel=>exact⟨k+1,acc++EB,_,_,_,by omega,by go_num,rfl,by omega,(show _=_ by rw[qG,<- HNL.out,<- HEN.out]),HO9,HG2,HB9⟩
        case measure=>simp[intOf];omega
   . have HE:=qH (show gather fs fr=(acc,0) by rw[HG.out,qt (by have:=HL.out;omega)];rfl);have HRR:Hid _:=Reads.of_owns HOW.out;go_wp2_with fail;go_ret2;refine⟨al,cl,?_,?_,Aa.out⟩
     . rw[HE.out,<- HNL.out];rfl
     . rw[HE.out];have:=HRR.out;rw[HNL.out]at this;exact this
end Go.Proofs.YtllgglolcgdehaaGreatDoor
namespace Go.Gs
open Go.RowKit Go.Maps
theorem B0{H:Type}{P:Program}(w:World){ops:Array Oper}{rest:List Oper}{o:Oper}{a:Act}{Q:Exit->Act->World->Prop}
 (hg:o.guard=none) (m x v:Operand) (t:TypeId) (hop:o.op=Op.insert t m x v)
 (k e:TypeId) (K:Keyed P k) (ht:P.underlying t=some (.map k e)) (R:Value->Option (DataW H × List MemPlace)) (b n:Nat) (D:DataW H)
 (hm:a.eval m=.map (some b)) (Ab:w.ownsMap P k R b n D) (hn:n<maxLen) (key val:Value) (kl:Lit) (hx:a.eval x=key) (hv:a.eval v=val) (Hu:keyOf P k key=some kl)
 (d:DataW H) (ps:List MemPlace) (Fa:R val=some (d,ps))
 (hK:∀w',w'.ownsMap P k R b (n+1) (D.put kl d)->w.grownBy w' (some b)->wpList P ops Q rest (a.put o.dst undef) w'):
 wpList P ops Q (o::rest) a w:=by refine wpList_plain hg fun K' hK'=>?_;obtain⟨w',Aj,r1,r2⟩:=Ab.update K ht hn Hu Fa;unfold Oper.wp;simp[execOp,hop,hm,hx,hv,Aj,Result.andThen];exact hK' _ _ (hK w' r1 r2)
theorem az4{H:Type}{P:Program}(w:World){ops:Array Oper}{rest:List Oper}{o:Oper}{a:Act}{Q:Exit->Act->World->Prop}
 (hg:o.guard=none) (m x:Operand) (t:TypeId) (hop:o.op=Op.lookup t m x false)
 (k e:TypeId) (K:Keyed P k) (ht:P.underlying t=some (.map k e)) (he:P.underlying e=some .string) (hz:(zeroValue e).run P w=.ok (.string ⟨#[]⟩) w) (b n:Nat) (D:DataW H)
 (hm:a.eval m=.map (some b)) (Ab:w.ownsMap P k (plainElem P e) b n D) (key:Value) (kl:Lit) (hx:a.eval x=key) (Hu:keyOf P k key=some kl)
 (hK:∀s:ByteArray,D.atKey kl (.lit (.string []))=.lit (.string s.data.toList)->wpList P ops Q rest (a.put o.dst (.string s)) w):
 wpList P ops Q (o::rest) a w:=by refine wpList_plain hg fun K' hK'=>?_;obtain⟨v,ps,Aj,hv⟩:=Ab.lookup K ht hz (plainElem_string (H:=H) he (s:=⟨#[]⟩) (by unfold maxLen;decide)) Hu;obtain⟨s,rfl,hs,_⟩:=plainElem_string_inv he hv;unfold Oper.wp;simp[execOp,hop,hm,hx,Aj,Result.andThen];exact hK' _ _ (hK s (by simpa using (Prod.mk.inj hs).1))
end Go.Gs
