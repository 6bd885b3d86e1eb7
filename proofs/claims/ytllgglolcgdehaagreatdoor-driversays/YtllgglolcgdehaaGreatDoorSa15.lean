/- What the reference's LineMade does, and more. -/
import Derived.Test.YtllgglolcgdehaaGreatDoorSAb
import Derived.Lib.QuietBelow
import Derived.Deep.AppendSrc
import Derived.Deep.Upon
import Derived.Test.YtllgglolcgdehaaGreatDoorSa14
import Derived.Test.YtllgglolcgdehaaGreatDoorSa11
set_option linter.all false
set_option maxRecDepth 100000
set_option maxHeartbeats 16000000
namespace Go.Proofs.YtllgglolcgdehaaGreatDoor
open Go.RowKit Go.Gs Tryz
theorem bD4{fs:List SFile}{x:SLine}(h:(gather fs x.fr).2≠0):m9 fs x=([],(gather fs x.fr).2):=by unfold m9;rw[qA h]
theorem aG6{fs:List SFile}{x:SLine}(h:(gather fs x.fr).2=0):m9 fs x=(M8 x.cs (gather fs x.fr).1,0):=by unfold m9;rw[qF h]
theorem bD5{w W:World}{bx:Nat}{a b c:Value}(v:Value)(bs:List UInt8)(hr:Reads W v bs.length (bs.map U))(hsh:W.ShapedOpen prog)(hle:bs.length<=4000)(h0:W.cell? ⟨bx,0,none⟩=some a)(h1:W.cell? ⟨bx,1,none⟩=some b)(h2:W.cell? ⟨bx,2,none⟩=some c):
 Calls prog 86 #[v] W fun e w'=>∃r,e=.returned r/\Hid (Reads w' r (lines bs).length ((lines bs).map S))/\Hid (Bq W w')/\w'.cell? ⟨bx,0,none⟩=some a/\w'.cell? ⟨bx,1,none⟩=some b/\w'.cell? ⟨bx,2,none⟩=some c:=by refine (bJ0 v bs W hr hsh (by omega)).mono ?_;rintro e w'⟨g,cp,rfl,h3,h4⟩;have hlt:bx<W.heap.size:=bLt W _ h0;exact⟨_,rfl,h3,h4,(h4.cell (p:=⟨bx,0,none⟩) hlt).trans h0,(h4.cell (p:=⟨bx,1,none⟩) hlt).trans h1,(h4.cell (p:=⟨bx,2,none⟩) hlt).trans h2⟩
theorem bg4(x:SLine)(ao af ad:Option Addr)(cap cf cd:Nat)(fs:List SFile)(w:World)(hf:j6 w (.slice ao fs.length cap) fs)(h4:∀f∈fs,f.b.length<=4000)(hfr:Reads w (.slice af x.fr.length cf) x.fr.length (x.fr.map S))(hcs:H9 w (.slice ad x.cs.length cd) x.cs)(hlx:lchk x=0)(hsh:w.ShapedOpen prog)(hK:V2 w):
 Calls prog 50 #[.slice ao fs.length cap,.agg #[.slice af x.fr.length cf,.slice ad x.cs.length cd,.string ⟨x.tu.toArray⟩]] w fun e w'=>ak7 w (m9 fs x) e w':=by
 obtain⟨_,_,Tj,_,_,Eg⟩:=aC2 hlx;have HG:Hid _:=fun(W:World)(hb:Bq w W)=>az3 ao af cap cf fs x.fr W (hf.below hb) h4 (hfr.below hb) (S7 hsh hb);have HD:=qH hcs;have HK:=qH hK;have HSH:=qH hsh;have HCA:Hid _:=Eg;obtain⟨N,hN⟩:=qE fs.length;obtain⟨NF,hNF⟩:=qE x.fr.length;obtain⟨ND,hND⟩:=qE x.cs.length;have HND:=qH hND;obtain⟨tx,htx⟩:=qE (⟨x.tu.toArray⟩:ByteArray);rw[<- hN,<- hNF]at HG;rw[<- hND]at HD Tj;rw[<- hN,<- hNF,<- hND,<- htx];clear hf h4 hfr hcs hlx hsh hK hN hNF hND htx Eg;go_enter Tryz.func50,Tryz.ntmps50;go_wp2_with fail;have hQ:=HG.out _ (C5 (w:=w) (o:=.cells #[.slice af NF cf,.slice ad ND cd,.string tx] 56));refine qD hQ ?_;rintro e w2⟨ab,cb,rfl,hrb,hb2⟩;obtain⟨hx0,hy1,hx2⟩:=aD2 hb2;have HB2:Hid (Bq w w2):=C5.trans (hb2.mono C5.size);obtain⟨ge,hge⟩:=qE ((gather fs x.fr).2);have HGE:=qH hge
 obtain⟨gb,hgb⟩:=qE ((gather fs x.fr).1);have HGB:=qH hgb;have HSM:=qH (show gb.length<=4000/\whole gb by rw[hgb];exact⟨(ab2 fs x.fr).2,(ab2 fs x.fr).1⟩);rw[<- hge,<- hgb];rw[<- hgb]at hrb;have HRB:Hid _:=hrb;obtain⟨GN,hGN⟩:=qE gb.length;have HGN:=qH hGN;rw[<- hGN]at HRB ⊢;clear hQ HG hrb hb2 hge hgb hGN hx0 hx2;by_cases hg0:ge=0
 .
  subst hg0;have HLT:=qH (show m9 fs x=(M8 x.cs gb,0) by rw[aG6 HGE.out.symm,HGB.out]);go_wp2_with fail;go_loopw [6,23] (fun bv i wr=>∃k:Nat,∃bs:List UInt8,∃ac cc nc,k<=ND/\i=.int .i64 k/\bv=.slice ac nc cc/\Hid (nc=bs.length)/\Hid (Reads wr (.slice ac nc cc) nc (bs.map U))/\Hid (bs.length<=4000/\whole bs)/\Hid (bs=M8 (x.cs.take k) gb)/\Hid (Bq w wr)) (fun _ i _=>ND-(intOf i).toNat)
  case atStart=>exact⟨0,gb,ab,cb,GN,qP _,rfl,rfl,HGN,HRB,HSM,(show _=_ from rfl),HB2⟩
  case round=>
   clear HRB HB2 hy1;obtain⟨k,bs,ac,cc,nc,hk,rfl,rfl,HNC,HRD,HSZ,HBS,Aa⟩:=hrel;by_cases hlt:k<ND
   .
    obtain⟨c,hc⟩:∃c,x.cs[k]? = some c:=⟨_,gEl (by have:=HND.out;omega)⟩;obtain⟨bb,off,rfl,hc0,hc1,hc2⟩:=(H9.below HD.out Aa.out).at hc;have hcc:=HCA.out c (mGt hc);have HLO:Hid _:=fun(W:World)(hb:Bq wr W)(bx:Nat)(a b c:Value)(h0:W.cell? ⟨bx,0,none⟩=some a)(h1:W.cell? ⟨bx,1,none⟩=some b)(h2:W.cell? ⟨bx,2,none⟩=some c)=>bD5 (.slice ac nc cc) bs (W:=W) (w:=w) (by have h:=HRD.out.below hb;rw[HNC.out]at h ⊢;exact h) (S7 (S7 HSH.out Aa.out) hb) HSZ.out.1 h0 h1 h2;have HMA:Hid _:=fun(W:World)(hb:Bq wr W)(v:Value)(hr:Reads W v (lines bs).length ((lines bs).map S))=>cb6 c hcc v (lines bs) W hr (by have:=D9 bs;have:=HSZ.out.1;omega) (fun s hs=>qw (aG3 hs HSZ.out.1) (by omega)) (S7 (S7 HSH.out Aa.out) hb) ((HK.out.below Aa.out).below hb)
    have Oy:=qH (show (U4 c bs).length<=4000/\whole (U4 c bs) by
     have:=an2 [c] bs (by simp[hcc]) HSZ.out.2 HSZ.out.1
     exact⟨this.2,this.1⟩)
    have HBO:Hid _:=fun(W:World)(v:Value)(hr:Reads W v (made c (lines bs)).length ((made c (lines bs)).map S))=>bytesOf v (made c (lines bs)) W hr (by have:=Oy.out.1;unfold U4 at this;omega);have HB3:=qH (show U4 c bs=M8 (x.cs.take (k+1)) gb by rw[aO6 hc,HBS.out]);obtain⟨ckk,Io⟩:=qE c.kind;obtain⟨cww,Ip⟩:=qE (⟨c.word.toArray⟩:ByteArray);obtain⟨cnn,Iq⟩:=qE c.n;have hcv:c.v=.agg #[.int .i64 ckk,.string cww,.int .i64 cnn]:=by rw[Io,Ip,Iq];rfl
    rw[hcv]at HMA;rw[<- Io]at hc0;rw[<- Ip]at hc1;rw[<- Iq]at hc2;clear hc hcc Io Ip Iq hcv HBS HRD HSZ;go_upto_region 7 with fail;have hbx:Bq wr (wr.alloc (.cells #[.int .i64 ckk,.string cww,.int .i64 cnn] 70)):=C5;have HBX:Hid (Bq wr (wr.alloc (.cells #[.int .i64 ckk,.string cww,.int .i64 cnn] 70)).drew):=hbx.drew;obtain⟨x0,x1,x2⟩:=aw3 (w:=wr) (a:=.int .i64 ckk) (b:=.string cww) (c:=.int .i64 cnn) (t:=70) (qI _ _).drew;clear hbx hc0 hc1 hc2
    go_region_with (first
     | (go_at_call 86;refine (HLO.out _ HBX.out wr.heap.size _ _ _ x0 x1 x2).mono ?_;rintro e w4⟨r4,rfl,R4,B4,y0,y1,y2⟩)
     | (go_at_call 85;refine (HMA.out w4 (HBX.out.trans (B4.out.mono HBX.out.size)) r4 R4.out).mono ?_;rintro e w5⟨r5,rfl,R5,B5⟩)
     | (go_at_call 84;refine (HBO.out w5 r5 R5).mono ?_;rintro e w6⟨r6,rfl,R6,B6⟩))
    all_goals
     have t5:=B4.out.trans (B5.mono B4.out.size);have t6:=t5.trans (B6.mono t5.size);have Tm:Hid (Bq w w6):=Aa.out.trans ((qT HBX t6).out.mono Aa.out.size);obtain⟨a3,c3,rfl,_,_⟩:=R6.shape;obtain⟨n3,hn3⟩:=qE ((U4 c bs).length);have HN3:=qH hn3;have hrd:Reads w6 (.slice a3 (U4 c bs).length c3) (U4 c bs).length ((U4 c bs).map U):=R6;have hv3:(ended (made c (lines bs))).length=n3:=hn3.symm;rw[hv3];rw[<- hn3]at hrd;have HR3:Hid _:=hrd;clear R6 B6 R5 B5 t5 t6 B4 R4 y0 y1 y2 x0 x1 x2 hn3 hrd hv3 HLO HMA HBO HBX;go_wp2_with fail;go_roundw
     case rel=>exact⟨k+1,_,_,_,_,by omega,by go_num,rfl,HN3,HR3,Oy,HB3,Tm⟩
     case measure=>simp[intOf];omega
   . have HE:=qH (show m9 fs x=(bs,0) by rw[HLT.out,HBS.out,qO (by have:=HND.out;omega)]);clear HLT HBS;go_wp2_with fail;go_ret2;refine⟨ac,cc,?_,?_,Aa.out⟩
     . rw[HE.out,<- HNC.out];rfl
     . rw[HE.out];have:=HRD.out;rw[HNC.out]at this;exact this
 . have HR:=qH (show m9 fs x=([],ge) by rw[bD4 (by rw[<- HGE.out];exact hg0),<- HGE.out]);clear HRB;go_wp2_with fail;go_ret2;exact ae4 HR.out rfl HB2.out
theorem ao5(ao:Option Addr)(cap:Nat)(fs:List SFile)(w:World)(hf:j6 w (.slice ao fs.length cap) fs)(Ad:∀f∈fs,M9 f):
 Calls prog 21 #[.slice ao fs.length cap] w fun e w'=>e=.returned (.int .i64 (fchk fs))/\Bq w w':=by
 have hle:=Y2 hf;have HF:=qH hf;have Db:Hid _:=Ad;obtain⟨N,hN⟩:=qE fs.length;have HN:=qH hN;have hN1:N<=9223372036854775807:=by omega
 rw[<- hN]at HF ⊢;by_cases Ey:12<N
 . have HR:=qH (show fchk fs=2 by unfold fchk;rw[qF (by omega)]);have hq:(12:Int)<N:=by omega
   clear hf Ad hle hN;go_enter Tryz.func21,Tryz.ntmps21;go_wp2_with fail;go_ret;exact⟨by rw[HR.out];rfl,qI _ _⟩
 .
  have HR:Hid (fchk fs=j8 none fs):=bo2 (by omega);have Sv:N<=12:=by omega
  clear hf Ad hle hN Ey hN1;go_enter Tryz.func21,Tryz.ntmps21;go_wp2_with fail;go_loopw [10] (fun i wr=>∃k:Nat,k<=N/\i=.int .i64 k/\Hid (Bq w wr)/\Hid (j8 none (fs.take k)=0)) (fun i _=>N-(intOf i).toNat)
  case atStart=>exact⟨0,qP _,rfl,qI _ _,(show _=_ from rfl)⟩
  case round=>
   obtain⟨k,hk,rfl,Aa,hno⟩:=hrel;by_cases hlt:k<N
   .
    obtain⟨f,hfk⟩:∃f,fs[k]? = some f:=⟨_,gEl (by have:=HN.out;omega)⟩;have HFK:=qH hfk;have HRk:Hid (j6 wr (.slice ao N cap) fs):=j6.below HF.out Aa.out;obtain⟨b,off,ab,cb,rfl,hc0,hc1,hr⟩:=HRk.out.at hfk;obtain⟨iw,hiw⟩:=qE (isWord f.name);have HIW:=qH hiw;have HW:Hid _:=fun(W:World)=>P6 f.name W (Db.out f (mGt hfk)) iw hiw.symm;have hbl:=U9 hr;obtain⟨L,hL⟩:=qE f.b.length;have HL:=qH hL;rw[<- hL]at hc1 hbl;obtain⟨fx,hfx⟩:=qE (⟨f.name.toArray⟩:ByteArray);have HFX:=qH hfx;rw[<- hfx]at hc0 HW;clear hfk hr hiw hL hfx;go_wp2_with fail;have hQ:=HW.out (wr.alloc (.cells #[.string fx,.slice ab L cb] 83));refine qD hQ ?_;rintro e w2⟨rfl,hb2⟩;obtain⟨hx0,hx1⟩:=aN6 hb2;have HB2:Hid (Bq w w2):=(Aa.out.alloc Aa.out.size _).trans (hb2.mono (by simp;exact zk Aa.out.size))
    have HR2:Hid (j6 w2 (.slice (some ⟨b,off,none⟩) N cap) fs):=j6.below (j6.below HRk.out C5) hb2;clear hQ hb2 HW hc0 hc1
    cases iw with
    | false=>
     have HB:=qH (show fbad (F3 none (fs.take k)) f=1 by unfold fbad;rw[qF HIW.out.symm])
     have HE:=qH (show fchk fs=1 by rw[HR.out,ai1 HFK.out hno.out (by rw[HB.out];decide),HB.out])
     clear hno HB
     go_wp2_with fail
     go_ret
     exact⟨by rw[HE.out];rfl,HB2.out⟩
    | true=>
     by_cases hl4:4000<L
     . have HB:=qH (show fbad (F3 none (fs.take k)) f=2 by unfold fbad;rw[qA (by simp[<- HIW.out]),qF (by have:=HL.out;omega)])
       have HE:=qH (show fchk fs=2 by rw[HR.out,ai1 HFK.out hno.out (by rw[HB.out];decide),HB.out])
       have hq:(4000:Int)<L:=by omega
       clear hno HB
       go_wp2_with fail
       go_ret
       exact⟨by rw[HE.out];rfl,HB2.out⟩
     .
      have hq:¬(4000:Int)<L:=by omega
      have HB:=qH (show fbad (F3 none (fs.take k)) f=match F3 none (fs.take k) with | none=>0 | some q=>if q<f.name then 0 else 6 by unfold fbad;rw[qA (by simp[<- HIW.out]),qA (by have:=HL.out;omega)];rfl)
      by_cases hk0:k=0
      . subst hk0
        have HG:Hid (j8 none (fs.take 1)=0):=ar2 HFK.out hno.out (by rw[HB.out];rfl)
        clear hno HB
        go_wp2_with fail
        go_region
        all_goals go_wp2_with fail
        all_goals go_roundw
        case rel=>exact⟨1,by omega,rfl,HB2.out.drew,HG⟩
        case measure=>simp[intOf];omega
      .
       obtain⟨m,rfl⟩:∃m,k=m+1:=⟨k-1,by omega⟩
       obtain⟨g,hg⟩:∃g,fs[m]? = some g:=⟨_,gEl (by have:=HN.out;omega)⟩
       have hln:F3 none (fs.take (m+1))=some g.name:=aY0 hg
       obtain⟨b',off',ab',cb',e0,hg0,hg1,_⟩:=HR2.out.at hg
       injection e0 with e0
       injection e0 with e1 e2
       subst e1 e2
       have hk1:(0:Int)<((m+1:Nat):Int):=by omega
       have Sz:((m+1:Nat):Int)-1=(m:Int):=by omega
       have hmN:m<N:=by omega
       have hls:=ay7 f.name g.name
       have hes:=ay6 f.name g.name
       rw[hln]at HB
       simp only at HB
       by_cases Di:g.name<f.name
       .
        have HG:Hid (j8 none (fs.take (m+1+1))=0):=ar2 HFK.out hno.out (by rw[hln,HB.out,qF Di])
        have Oo:Op.bytesLess fx.toList (⟨g.name.toArray⟩:ByteArray).toList=false:=by
         rw[HFX.out,ByteArray.toList_eq,ByteArray.toList_eq]
         show Op.bytesLess f.name g.name=false
         rw[hls]
         exact qU (fun h=>zN _ (zd Di h))
        have Fo:(fx.toList==(⟨g.name.toArray⟩:ByteArray).toList)=false:=by rw[HFX.out,hes];exact qU (fun h=>zN _ (h ▸ Di))
        generalize (⟨g.name.toArray⟩:ByteArray)=gx at *
        clear hno HB hls hes hln Di hg hg1
        go_wp2_with fail
        go_quiet (fail)
        all_goals go_wp2_with fail
        all_goals go_roundw
        case rel=>exact⟨m+1+1,by omega,by go_num,belowq HB2.out _,HG⟩
        case measure=>simp[intOf];omega
       .
        have HE:=qH (show fchk fs=6 by rw[HR.out,ai1 HFK.out hno.out (by rw[hln,HB.out,qA Di];decide),hln,HB.out,qA Di])
        obtain⟨d1,hd1⟩:=qE (Op.bytesLess fx.toList (⟨g.name.toArray⟩:ByteArray).toList)
        obtain⟨d2,hd2⟩:=qE ((fx.toList==(⟨g.name.toArray⟩:ByteArray).toList))
        have hor:d1=true\/d2=true:=by
         rw[hd1,hd2,HFX.out,hes]
         by_cases hfg:f.name=g.name
         . exact .inr (qd hfg)
         . left
           rw[ByteArray.toList_eq,ByteArray.toList_eq]
           show Op.bytesLess f.name g.name=true
           rw[hls]
           have h3:f.name<=g.name:=List.not_lt.1 Di
           by_cases h:f.name<g.name
           . exact qd h
           . exact absurd (List.le_antisymm h3 (List.not_lt.1 h)) hfg
        generalize (⟨g.name.toArray⟩:ByteArray)=gx at *
        clear hno HB hls hes hln Di hg hg1
        rcases hor with rfl | rfl
        . have hd1':=hd1.symm
          clear hd1 hd2
          go_wp2_with fail
          go_quiet (fail)
          all_goals go_wp2_with fail
          all_goals go_ret
          all_goals exact⟨by rw[HE.out];rfl,belowq HB2.out _⟩
        . have hd2':=hd2.symm
          clear hd1 hd2
          go_wp2_with fail
          go_quiet (fail)
          all_goals go_wp2_with fail
          all_goals go_ret
          all_goals exact⟨by rw[HE.out];rfl,belowq HB2.out _⟩
   .
    have HE:=qH (show fchk fs=0 by
     rw[HR.out]
     have e:=hno.out
     rw[qO (by have:=HN.out;omega)]at e
     exact e)
    clear hno;go_wp2_with fail;go_ret;exact⟨by rw[HE.out];rfl,Aa.out⟩
theorem aZ2(au av:Option Addr)(cu cv:Nat)(a b:List UInt8)(w:World)(ha:Reads w (.slice au a.length cu) a.length (a.map U))(hb:Reads w (.slice av b.length cv) b.length (b.map U)):
 Calls prog 30 #[.slice au a.length cu,.slice av b.length cv] w fun e w'=>e=.returned (.bool (decide (a=b)))/\Bq w w':=by
 have m2:=U9 ha;have m4:=U9 hb;have HA:=qH ha;have HB:=qH hb;obtain⟨NA,hNA⟩:=qE a.length;obtain⟨NB,hNB⟩:=qE b.length;have HNA:=qH hNA;have HNB:=qH hNB;have hA1:NA<=9223372036854775807:=by omega
 have hB1:NB<=9223372036854775807:=by omega
 rw[<- hNA,<- hNB];rw[<- hNA]at HA;rw[<- hNB]at HB;clear ha hb m2 m4 hNA hNB;by_cases hne:NA=NB
 .
  subst hne;go_enter Tryz.func30,Tryz.ntmps30;go_wp2_with fail;go_loopw [13] (fun i wr=>∃k:Nat,k<=NA/\i=.int .i64 k/\Hid (Bq w wr)/\Hid (a.take k=b.take k)) (fun i _=>NA-(intOf i).toNat)
  case atStart=>exact⟨0,qP _,rfl,qI _ _,(show _=_ by simp)⟩
  case round=>
   obtain⟨k,hk,rfl,Aa,Ae⟩:=hrel;by_cases hlt:k<NA
   .
    obtain⟨x,hx⟩:∃x,a[k]? = some x:=⟨_,gEl (by have:=HNA.out;omega)⟩;obtain⟨y,hy⟩:∃y,b[k]? = some y:=⟨_,gEl (by have:=HNB.out;omega)⟩;have HX:=qH hx;have HY:=qH hy;obtain⟨b1,o1,rfl,hc1⟩:=aN7 (Reads.below HA.out Aa.out) hx;obtain⟨b2,o2,rfl,hc2⟩:=aN7 (Reads.below HB.out Aa.out) hy;by_cases hxy:x=y
    . subst hxy;have HE:Hid (a.take (k+1)=b.take (k+1)):=bo3 Ae.out hx hy;generalize (x.toNat:Int)=xi at *;clear hx hy Ae;go_wp2_with fail;go_region
      all_goals go_wp2_with fail
      all_goals go_roundw
      case rel=>exact⟨k+1,by omega,by go_num,Aa.out.drew,HE⟩
      case measure=>simp[intOf];omega
    . have HE:Hid (a≠b):=ca1 hx hy hxy;have hxi:¬(x.toNat:Int)=(y.toNat:Int):=fun h=>hxy (UInt8.toNat_inj.1 (by omega));generalize (x.toNat:Int)=xi at *;generalize (y.toNat:Int)=yi at *;clear hx hy Ae hxy;go_wp2_with fail;go_region
      all_goals go_wp2_with fail
      all_goals go_ret
      all_goals exact⟨by rw[qU HE.out];rfl,Aa.out.drew⟩
   .
    have HE:=qH (show a=b by
     have h:=Ae.out
     rw[qO (by have:=HNA.out;omega),qO (by have:=HNB.out;omega)]at h
     exact h)
    clear Ae;go_wp2_with fail;go_ret;exact⟨by rw[qd HE.out];rfl,Aa.out⟩
 . have HE:Hid (a≠b):=(show a≠b from fun e=>hne (by rw[HNA.out,HNB.out,e]));have hq:¬(NA:Int)=NB:=by omega
   go_enter Tryz.func30,Tryz.ntmps30;go_wp2_with fail;go_ret;exact⟨by rw[qU HE.out];rfl,qI _ _⟩
end Go.Proofs.YtllgglolcgdehaaGreatDoor
namespace Go.Gs
open Go.RowKit
structure SPipe where
 b:List UInt8
 room:Int
 closed:Bool
 shut:Bool
def ab0:SPipe:=⟨[],0,false,false⟩
def plim(room:Int):Int:=if room=0 then 40000 else room
def pck(n:Nat)(room:Int)(shut:Bool):Int:=
 if room<0\/1000<room then 3 else if plim room<(n:Int) then 2 else if shut=true/\0<n then 4 else 0
def pchk(p:SPipe):Int:=pck p.b.length p.room p.shut
def pnew(room:Int):SPipe × Int:=if room<0\/1000<room then (ab0,3) else (⟨[],room,false,false⟩,0)
def pfit(m n:Nat)(room:Int):Nat:=min m (plim room-(n:Int)).toNat
def pwrite(p:SPipe)(cs:List UInt8):SPipe × Nat × Int:=
 if pchk p≠0 then (ab0,0,pchk p) else if p.closed=true then (ab0,0,7) else if p.shut=true then (⟨[],p.room,p.closed,p.shut⟩,cs.length,0)
 else (⟨p.b++cs.take (pfit cs.length p.b.length p.room),p.room,p.closed,p.shut⟩,pfit cs.length p.b.length p.room,0)
def pread(p:SPipe)(most:Int):SPipe × List UInt8 × Int:=
 if pchk p≠0 then (ab0,[],pchk p) else if most<0\/4000<most then (ab0,[],3)
 else (⟨p.b.drop (min most.toNat p.b.length),p.room,p.closed,p.shut⟩,p.b.take (min most.toNat p.b.length),0)
def pshut(p:SPipe):SPipe × Int:=
 if pchk p≠0 then (ab0,pchk p) else (⟨[],p.room,p.closed,true⟩,0)
theorem bg5{n:Nat}{room:Int}{sh:Bool}(h:pck n room sh=0):0<=room/\room<=1000/\(n:Int)<=plim room/\(sh=true->n=0):=by
 unfold pck at h;split at h
 . cases h
 .
  split at h
  . cases h
  . split at h
    . cases h
    . refine⟨by omega,by omega,by omega,fun hs=>?_⟩;simp[hs]at *;omega
theorem aK2{room:Int}(h:room<=1000):plim room<=40000:=by unfold plim;split <;> omega
theorem bg6{m n:Nat}{room:Int}:pfit m n room<=m:=Nat.min_le_left _ _
theorem bp9{m n:Nat}{room:Int}(h1:room<=1000)(h2:(n:Int)<=plim room):n+pfit m n room<=40000/\((n+pfit m n room:Nat):Int)<=plim room:=by have:=aK2 h1;have:pfit m n room<=(plim room-(n:Int)).toNat:=Nat.min_le_right _ _;omega
theorem bq0{m n:Nat}{room:Int}(h2:(n:Int)<=plim room):(pfit m n room:Int)=if (m:Int)<=plim room-n then (m:Int) else plim room-n:=by unfold pfit;split <;> omega
def W9(p:SPipe)(ab:Option Addr)(cap:Nat):Value:=.agg #[.slice ab p.b.length cap,.int .i64 p.room,.bool p.closed,.bool p.shut]
def PB(w w':World)(ar:Option Addr)(cr:Nat)(bs:List UInt8):Prop:=Reads w' (.slice ar bs.length cr) bs.length (bs.map U)/\(∀a,ar=some a->w.heap.size<=a.block)/\(ar=none->cr=0)
theorem PB.none(w w':World):PB w w' none 0 []:=⟨⟨rfl,Option.none,0,rfl,qB _,by simp[maxLen],fun h=>absurd rfl h⟩,(fun a h=>by cases h),fun _=>rfl⟩
structure SProc where
 got:List (List UInt8)
 pos:Int
 out:List (List UInt8)
 rd:Bool
 ov:Bool
structure SMach where
 ns:List SNode
 fs:List SFile
 pipes:List SPipe
 ps:List SProc
 sunk:List UInt8
def S9:SMach:=⟨[],[],[],[],[]⟩
def j3(ns:List SNode):List (Int × Int):=(ns.map SNode.ins).flatten
def b7(ns:List SNode)(i:Nat):Nat:=(j3 (ns.take i)).length
def D2(ns:List SNode)(p:Int × Int):Nat:=(j3 ns).idxOf p
def K5(l:List Int):Int:=(l.find? (fun x=>x != 0)).getD 0
def V7(l:List (List UInt8)):Bool:=l.any (fun b=>decide (40000<b.length))
def E1(n:SNode)(p:SProc):Int:=
 if p.got.length≠n.ins.length\/(p.out.length:Int)≠nouts n then 4
 else if p.pos<0\/(n.ins.length:Int)<p.pos\/(p.ov=true/\p.rd=false)\/(p.rd=false/\0<n.ins.length/\p.pos=n.ins.length) then 3
 else if V7 p.got || V7 p.out then 2
 else 0
def G0:List SNode->List SProc->Int
 | n::ns,p::ps=>if E1 n p≠0 then E1 n p else G0 ns ps
 | _,_=>0
def mchk(M:SMach):Int:=
 if gchk M.ns≠0 then gchk M.ns
 else if fchk M.fs≠0 then fchk M.fs
 else if M.ps.length≠M.ns.length\/M.pipes.length≠(j3 M.ns).length then 4
 else if K5 (M.pipes.map pchk)≠0 then K5 (M.pipes.map pchk)
 else if G0 M.ns M.ps≠0 then G0 M.ns M.ps
 else if 40000<M.sunk.length then 2
 else 0
def SMach.setP(M:SMach)(i:Nat)(p:SProc):SMach:=⟨M.ns,M.fs,M.pipes,M.ps.set i p,M.sunk⟩
def SMach.setX(M:SMach)(q:Nat)(x:SPipe):SMach:=⟨M.ns,M.fs,M.pipes.set q x,M.ps,M.sunk⟩
def SMach.pipe(M:SMach)(q:Nat):SPipe:=(M.pipes[q]?).getD ab0
def C3(n:SNode)(fs:List SFile)(p:SProc):SProc:=⟨p.got.map (fun _=>[]),p.pos,List.zipWith (· ++ ·) p.out (j0 n fs p.got),true,p.ov⟩
def l8(b:List UInt8):Nat:=(b.reverse.dropWhile (fun c=>c != 10)).length
def passes(n:SNode):Bool:=(decide (n.kind=4) && decide (n.how=1)) || (decide (n.kind=3) && N9 n.c.kind)
def through(n:SNode)(whole:List UInt8):List UInt8:=if n.kind=4 then whole else ended (made n.c (lines whole))
def SProc.at(p:SProc):List UInt8:=(p.got[p.pos.toNat]?).getD []
def SProc.setGot(p:SProc)(b:List UInt8):SProc:=⟨p.got.set p.pos.toNat b,p.pos,p.out,p.rd,p.ov⟩
def SProc.setOut(p:SProc)(k:Nat)(b:List UInt8):SProc:=⟨p.got,p.pos,p.out.set k b,p.rd,p.ov⟩
def I5(M:SMach)(i:Nat)(p:SProc):Nat->List (List UInt8)->SMach × Int
 | _,[]=>(M,8)
 | k,b::r=>
  if 0<(pwrite (M.pipe (D2 M.ns (i,k))) b).2.1 then
   ((M.setX (D2 M.ns (i,k)) (pwrite (M.pipe (D2 M.ns (i,k))) b).1).setP i (p.setOut k (b.drop (pwrite (M.pipe (D2 M.ns (i,k))) b).2.1)),0)
  else I5 M i p (k+1) r
def U1(x:SPipe):SPipe:=⟨x.b,x.room,true,x.shut⟩
def L6(ns:List SNode)(i:Nat):Nat->List SPipe->List SPipe
 | 0,xs=>xs
 | k+1,xs=>(L6 ns i k xs).modify (D2 ns (i,k)) U1
def endS(M:SMach)(i:Nat)(p:SProc):SMach:=⟨M.ns,M.fs,L6 M.ns i p.out.length M.pipes,M.ps.set i ⟨p.got,p.pos,p.out,p.rd,true⟩,M.sunk⟩
def I7(M:SMach)(i:Nat)(n:SNode)(q:Nat)(p:SProc):SMach:=
 if n.kind=5 then ⟨M.ns,M.fs,M.pipes,M.ps.set i (p.setGot []),M.sunk++p.at⟩
 else if passes n && p.at.contains 10 then M.setP i ((p.setOut 0 ((p.out[0]?).getD []++through n (p.at.take (l8 p.at)))).setGot (p.at.drop (l8 p.at)))
 else if n.kind=3/\n.c.kind=9/\n.c.n<=(p.at.count 10:Int) then (M.setX q ⟨[],(M.pipe q).room,(M.pipe q).closed,true⟩).setP i (C3 n M.fs p)
 else M.setP i p
def aG7(M:SMach)(i:Nat)(n:SNode)(q:Nat)(p:SProc):SMach × Int:=
 if (M.pipe q).closed && (M.pipe q).b.isEmpty then
  (if p.pos+1=p.got.length then (M.setP i (C3 n M.fs ⟨p.got,p.pos+1,p.out,p.rd,p.ov⟩),0) else (M.setP i ⟨p.got,p.pos+1,p.out,p.rd,p.ov⟩,0))
 else if (M.pipe q).b.isEmpty then (M,8)
 else (I7 (M.setX q ⟨(M.pipe q).b.drop 8,(M.pipe q).room,(M.pipe q).closed,(M.pipe q).shut⟩) i n q (p.setGot (p.at++(M.pipe q).b.take 8)),0)
def aP1(M:SMach)(i:Nat)(n:SNode)(p:SProc):SMach × Int:=
 if p.ov then (M,7)
 else if p.out.any (fun b=>!b.isEmpty) then I5 M i p 0 p.out
 else if p.rd then (endS M i p,0)
 else if p.got.isEmpty then (M.setP i (C3 n M.fs p),0)
 else aG7 M i n (b7 M.ns i+p.pos.toNat) p
def K7(M:SMach)(i:Nat):SMach × Int:=
 match M.ns[i]?,M.ps[i]? with
 | some n,some p=>aP1 M i n p
 | _,_=>(M,5)
def stepS(M:SMach)(i:Int):SMach × Int:=if i<0\/(M.ps.length:Int)<=i then (M,5) else K7 M i.toNat
def overS(M:SMach):Bool:=M.ps.all (fun p=>p.ov)
def roundTo(M:SMach):Nat->SMach × Bool
 | 0=>(M,false)
 | k+1=>((K7 (roundTo M k).1 k).1,(roundTo M k).2 || decide ((K7 (roundTo M k).1 k).2=0))
def V8(M:SMach):SMach × Bool:=roundTo M M.ps.length
def Fins:Nat->SMach->SMach × Int->Prop
 | 0,M,r=>(overS M=true/\r=(M,0))\/(overS M=false/\(V8 M).2=false/\r=(S9,8))
 | k+1,M,r=>overS M=false/\(V8 M).2=true/\Fins k (V8 M).1 r
def t7(M:SMach):List Int->SMach × List Int
 | []=>(M,[])
 | i::r=>((t7 (stepS M i).1 r).1,(stepS M i).2::(t7 (stepS M i).1 r).2)
def roomOf(ns:List SNode)(room:Int)(p:Int × Int):Int:=if ((ns[p.1.toNat]?).map SNode.kind)=some 2 then 0 else room
def L8(n:SNode):SProc:=⟨List.replicate n.ins.length [],0,List.replicate (nouts n).toNat [],false,false⟩
def L9(ns:List SNode)(fs:List SFile)(room:Int):SMach:=⟨ns,fs,(j3 ns).map (fun p=>⟨[],roomOf ns room p,false,false⟩),ns.map L8,[]⟩
def newS(ns:List SNode)(fs:List SFile)(room:Int):SMach × Int:=
 if gchk ns≠0 then (S9,gchk ns) else if fchk fs≠0 then (S9,fchk fs) else if room<1\/1000<room then (S9,3) else (L9 ns fs room,0)
end Go.Gs
namespace Go.Proofs.YtllgglolcgdehaaGreatDoor
open Go.RowKit Go.Gs Tryz
theorem ae5{w:World}{o:Obj}:Bq w (w.alloc o):=(qI _ w).alloc (qB _) o
theorem ao6{w:World}{o p:Obj}:Bq w ((w.alloc o).alloc p):=(ae5 (w:=w) (o:=o)).alloc (by simp) p
theorem bq1{w:World}{v:Value}{n:Nat}{xs:List Value}(h:Reads w v n xs):∃ao cap,v=.slice ao n cap/\n<=cap/\cap<=maxLen:=by obtain⟨_,ao,cap,rfl,h2,h3,_⟩:=h;exact⟨ao,cap,rfl,h2,h3⟩
theorem F6{w:World}{ao:Option Addr}{n cap:Nat}{xs:List Value}(h:Reads w (.slice ao n cap) n xs):n<=9223372036854775807/\n<=cap/\cap<=9223372036854775807:=by obtain⟨_,c,e,h1,h2⟩:=bq1 h;injection e with e1 e2 e3;subst e3;unfold maxLen at h2;omega
theorem bq2{w:World}{ao:Option Addr}{n cap:Nat}{bs:List UInt8}(h:Reads w (.slice ao n cap) n (bs.map U)){k:Nat}{c:UInt8}(hk:bs[k]? = some c):
 ∃b off,ao=some ⟨b,off,none⟩/\w.cell? ⟨b,off+k,none⟩=some (.int .u8 (c.toNat:Int)):=by obtain⟨h1,ao',cap',e,_,_,h5⟩:=h;injection e with e1 e2 e3;subst e1;obtain⟨hkl,_⟩:=gSm hk;rw[qM]at h1;obtain⟨b,off,hao,hc⟩:=h5 (by omega);exact⟨b,off,hao,hc k (U c) (by rw[qQ,hk];rfl)⟩
theorem addP{b off j:Nat}:(⟨b,off,none⟩:Addr).add j=⟨b,off+j,none⟩:=by unfold Addr.add;split <;> simp_all
theorem bg7:(prog.info? 5).map (fun i=>(i.zero,i.size,i.bytes))=some (some (.int .u8 0),1,1):=by kernel_rfl
theorem aP2{bs:List UInt8}:∀u∈bs.map U,u.oneCell'=true:=by intro u hu;obtain⟨x,_,rfl⟩:=qg.1 hu;rfl
theorem cs1{w w':World}{a b c d:Value}{t:TypeId}(h:Below (w.alloc (.cells #[a,b,c,d] t)).heap.size (w.alloc (.cells #[a,b,c,d] t)) w'):
 w'.heap[w.heap.size]? = some (.cells #[a,b,c,d] t (0,0)):=(h.block _ (by simp)).trans (qN w _)
theorem E5{w:World}{k:Nat}{a b c d:Value}{t:TypeId}(h:w.heap[k]? = some (.cells #[a,b,c,d] t (0,0))):
 w.cell? ⟨k,0,none⟩=some a/\w.cell? ⟨k,1,none⟩=some b/\w.cell? ⟨k,2,none⟩=some c/\w.cell? ⟨k,3,none⟩=some d:=by
 refine⟨?_,?_,?_,?_⟩
 all_goals
  rw[qV _ _ _ _ _ _ h];rfl
theorem ae6{w:World}{k:Nat}{a b c d:Value}{t:TypeId}(h:w.heap[k]? = some (.cells #[a,b,c,d] t (0,0))):
 w.frozen? ⟨k,0,none⟩=false/\w.frozen? ⟨k,1,none⟩=false/\w.frozen? ⟨k,2,none⟩=false/\w.frozen? ⟨k,3,none⟩=false:=
 ⟨xK _ _ _ _ _ h,xK _ _ _ _ _ h,xK _ _ _ _ _ h,xK _ _ _ _ _ h⟩
theorem aG8{B:Nat}{w w1:World}(h:Below B w w1){k:Nat}(hk:B<=k)(a b c d:Value):Below B w ((((w1.setCell ⟨k,0,none⟩ a).setCell ⟨k,1,none⟩ b).setCell ⟨k,2,none⟩ c).setCell ⟨k,3,none⟩ d):=
 (((h.setCell hk a).setCell hk b).setCell hk c).setCell hk d
theorem bQ5{w:World}{ao:Option Addr}{n cap:Nat}{xs:List Value}(h:Reads w (.slice ao n cap) n xs){k off:Nat}(hk:∀a,ao=some a->a.block≠k)(v:Value):Reads (w.setCell ⟨k,off,none⟩ v) (.slice ao n cap) n xs:=by obtain⟨h1,ao',cap',e,h2,h3,h4⟩:=h;injection e with e1 e2 e3;subst e1 e3;refine⟨h1,_,_,rfl,h2,h3,fun hn=>?_⟩;obtain⟨b,o,rfl,hc⟩:=h4 hn;refine⟨b,o,rfl,fun j u hu=>?_⟩;have hne:b≠k:=hk _ rfl;rw[zI _ _ _ _ (by intro e;injection e with e1;omega)];exact hc j u hu
theorem PB.setP{w w':World}{ar:Option Addr}{cr:Nat}{bs:List UInt8}(h:PB w w' ar cr bs){k off:Nat}(hk:k<w.heap.size)(v:Value):PB w (w'.setCell ⟨k,off,none⟩ v) ar cr bs:=
 ⟨bQ5 h.1 (fun a ha=>by have:=h.2.1 a ha;omega) v,h.2⟩
theorem PB.fromP{w w1 w':World}{ar:Option Addr}{cr:Nat}{bs:List UInt8}(h:PB w1 w' ar cr bs)(hs:w.heap.size<=w1.heap.size):PB w w' ar cr bs:=⟨h.1,fun a ha=>qw hs (h.2.1 a ha),h.2.2⟩
theorem o7{fn:Func}{p u x:Tmp}{ty:TypeId}(h:fn.results=#[.cell p ty,.tmp u,.tmp x])(tmps:Array Value)(P:Program)(w:World):
 (results fn tmps).run P w =
  ((asAddr (tmps.getD p undef)).run P w).andThen fun a w₁=>((loadVar ty a).run P w₁).andThen fun v w₂=>.ok (.tuple #[v,tmps.getD u undef,tmps.getD x undef]) w₂:=by simp only[results,h];simp[Sem.run_bind,Result.andThen]
theorem bg8{w w':World}{a b c d a' b' c' d':Value}{t t':TypeId}(h:Below ((w.alloc (.cells #[a,b,c,d] t)).alloc (.cells #[a',b',c',d'] t')).heap.size ((w.alloc (.cells #[a,b,c,d] t)).alloc (.cells #[a',b',c',d'] t')) w'):
 w'.heap[w.heap.size]? = some (.cells #[a,b,c,d] t (0,0))/\w'.heap[w.heap.size+1]? = some (.cells #[a',b',c',d'] t' (0,0)):=by
 refine⟨(h.block _ (by simp;omega)).trans ?_,(h.block _ (by simp)).trans ?_⟩
 . rw[ae5.block _ (by simp)];exact qN w _
 . have:=qN (w.alloc (.cells #[a,b,c,d] t)) (.cells #[a',b',c',d'] t');simpa using this
theorem bJ1(ab:Option Addr)(cb:Nat)(bs:List UInt8)(w:World)(hr:Reads w (.slice ab bs.length cb) bs.length (bs.map U))(hl:bs.length<=100000):
 Calls prog 125 #[.slice ab bs.length cb] w fun e w'=>∃ar cr,e=.returned (.slice ar bs.length cr)/\PB w w' ar cr bs/\Bq w w':=by
 obtain⟨i0,hi,hi0,hi1,hi2⟩:=info_parts bg7;have hq:∀(w:World)(a:Option Addr)(n c n' c':Nat),(binOp .eql 28 (.slice a n c) (.slice none n' c')).run prog w=.ok (.bool a.isNone) w:=fun w a n c n' c'=>Lib.run_eql_slice_nil w _ _ a n c n' c' underlying28;obtain⟨h1,ao,cap,e,h2,h3,h4⟩:=hr;injection e with e1 e2 e3;subst e1 e3
 cases ab with
 | none=>
  have h0:bs=[]:=by
   cases bs with
   | nil=>rfl
   | cons x r=>obtain⟨b,off,e,_⟩:=h4 (by simp);cases e
  subst h0
  clear h4 h1
  go_enter Tryz.func125,Tryz.ntmps125
  go_wp2_with fail
  go_ret
  exact⟨none,0,rfl,PB.none _ _,qI _ _⟩
 | some a=>
  have Ac:∀j u,(bs.map U)[j]? = some u->w.cell? (a.add j)=some u:=by
   intro j u hj
   have:0<bs.length:=by
    have:=(gSm hj).1
    simp at this
    omega
   obtain⟨b,off,e,hc⟩:=h4 (by omega)
   injection e with e
   subst e
   rw[addP]
   exact hc j u hj
  have HC:Hid _:=Ac
  obtain⟨xs,hxs⟩:=qE (bs.map U)
  have HX:=qH hxs
  obtain⟨N,hN⟩:=qE bs.length
  have HN:=qH hN
  have HXL:=qH (show xs.length=N by rw[hxs,hN,qM])
  rw[<- hxs]at HC
  unfold PB
  rw[<- hxs,<- hN]
  rw[<- hN]at hl
  clear h4 h1 Ac hxs hN h2 h3
  go_enter Tryz.func125,Tryz.ntmps125
  go_wp2_with (at_builtin;refine qx _ rfl _ _ 28 rfl w.heap.size 5 i0 (.int .u8 0) 1 1 underlying28 hi hi0 hi1 hi2 rfl (by decide) _ _ _ rfl (World.ownsRow_made w #[] 0 (qB _) (qP _) rfl) a N cb xs rfl ?qc1 ?qc2 ?qc3 ?qc4 ?qc5 ?qc6 ?_)
  case qc1=>first|(rw[HXL.out];done)|(rw[HXL.out,Nat.mul_one])
  case qc2=>
   intro j u hj
   have h:=HC.out j u hj
   rw[ae5.cell (bLt w _ h)]
   exact h
  case qc3=>rw[HX.out];exact aP2
  case qc4=>unfold maxLen;omega
  case qc5=>omega
  all_goals try (case qc6=>simp)
  .
   intro v' w1 Ab hg Dh
   have HB:Hid (Bq w w1):=ae5.grown hg (by simp) (fun k hk=>by injection hk with hk;subst hk;exact qB _)
   have Ag:w1.ownsRow w.heap.size 5 1 v' N xs:=by simpa using Ab
   have HO:=qH Ag
   have HR:Hid (∃ar cr,v'=.slice ar N cr/\(∀a,ar=some a->w.heap.size<=a.block)/\(ar=none->cr=0)):=(show ∃ar cr,v'=.slice ar N cr/\(∀a,ar=some a->w.heap.size<=a.block)/\(ar=none->cr=0) by
    rcases Ag.2 with⟨rfl,h0⟩|⟨g,cap,cur,rfl,hb,_⟩
    . exact⟨none,0,by rw[h0],(fun a h=>by cases h),fun _=>rfl⟩
    . exact⟨_,cap,rfl,(fun a h=>by injection h with h;subst h;exact hb),fun h=>by cases h⟩)
   clear Ab hg Dh Ag
   go_wp2
   go_ret
   obtain⟨ar,cr,hv,hn⟩:=HR.out
   refine⟨ar,cr,by rw[<- hv];rfl,⟨?_,hn⟩,HB.out⟩
   rw[<- hv]
   exact Reads.of_owns HO.out
def aa8(w:World)(v:Value)(xs:List SPipe):Prop:=
 ∃ao cap,v=.slice ao xs.length cap/\xs.length<=cap/\cap<=maxLen /\
  (xs.length≠0->∃b off,ao=some ⟨b,off,none⟩/\∀(j:Nat)(x:SPipe),xs[j]? = some x->∃ab cb,w.cell? ⟨b,off+j*4,none⟩=some (.slice ab x.b.length cb)/\w.cell? ⟨b,off+j*4+1,none⟩=some (.int .i64 x.room) /\
   w.cell? ⟨b,off+j*4+2,none⟩=some (.bool x.closed)/\w.cell? ⟨b,off+j*4+3,none⟩=some (.bool x.shut)/\Reads w (.slice ab x.b.length cb) x.b.length (x.b.map U))
theorem aa8.below{w w':World}{v:Value}{xs:List SPipe}(h:aa8 w v xs)(hb:Bq w w'):aa8 w' v xs:=by obtain⟨ao,cap,rfl,h2,h3,h4⟩:=h;refine⟨ao,cap,rfl,h2,h3,fun hn=>?_⟩;obtain⟨b,off,rfl,hc⟩:=h4 hn;refine⟨b,off,rfl,fun j c hj=>?_⟩;obtain⟨ab,cb,a0,a1,a2,a3,a4⟩:=hc j c hj;exact⟨ab,cb,qC hb a0,qC hb a1,qC hb a2,qC hb a3,a4.below hb⟩
theorem aa8.shape{w:World}{v:Value}{xs:List SPipe}(h:aa8 w v xs):∃ao cap,v=.slice ao xs.length cap/\xs.length<=cap/\cap<=maxLen:=by obtain⟨ao,cap,h1,h2,h3,_⟩:=h;exact⟨ao,cap,h1,h2,h3⟩
theorem aa8.at{w:World}{ao:Option Addr}{n cap:Nat}{xs:List SPipe}(h:aa8 w (.slice ao n cap) xs){k:Nat}{x:SPipe}(hk:xs[k]? = some x):
 ∃b off ab cb,ao=some ⟨b,off,none⟩/\w.cell? ⟨b,off+k*4,none⟩=some (.slice ab x.b.length cb)/\w.cell? ⟨b,off+k*4+1,none⟩=some (.int .i64 x.room) /\
  w.cell? ⟨b,off+k*4+2,none⟩=some (.bool x.closed)/\w.cell? ⟨b,off+k*4+3,none⟩=some (.bool x.shut)/\Reads w (.slice ab x.b.length cb) x.b.length (x.b.map U):=by obtain⟨ao',cap',e,_,_,h5⟩:=h;injection e with e1 e2 e3;subst e1;obtain⟨hkl,_⟩:=gSm hk;obtain⟨b,off,hao,hc⟩:=h5 (by omega);obtain⟨ab,cb,a⟩:=hc k x hk;exact⟨b,off,ab,cb,hao,a⟩
theorem bQ6{w:World}{ao:Option Addr}{n cap:Nat}{xs:List SPipe}(h:aa8 w (.slice ao n cap) xs):n<=cap/\cap<=9223372036854775807:=by obtain⟨_,c,e,h1,h2⟩:=h.shape;unfold maxLen at h2;injection e with e1 e2 e3;omega
def U2(w:World)(v:Value)(ps:List SProc):Prop:=
 ∃ao cap,v=.slice ao ps.length cap/\ps.length<=cap/\cap<=maxLen /\
  (ps.length≠0->∃b off,ao=some ⟨b,off,none⟩/\∀(j:Nat)(p:SProc),ps[j]? = some p->∃ag cg ab cb,w.cell? ⟨b,off+j*5,none⟩=some (.slice ag p.got.length cg)/\w.cell? ⟨b,off+j*5+1,none⟩=some (.int .i64 p.pos) /\
   w.cell? ⟨b,off+j*5+2,none⟩=some (.slice ab p.out.length cb)/\w.cell? ⟨b,off+j*5+3,none⟩=some (.bool p.rd)/\w.cell? ⟨b,off+j*5+4,none⟩=some (.bool p.ov)/\RList w (.slice ag p.got.length cg) U p.got/\RList w (.slice ab p.out.length cb) U p.out)
theorem U2.below{w w':World}{v:Value}{ps:List SProc}(h:U2 w v ps)(hb:Bq w w'):U2 w' v ps:=by obtain⟨ao,cap,rfl,h2,h3,h4⟩:=h;refine⟨ao,cap,rfl,h2,h3,fun hn=>?_⟩;obtain⟨b,off,rfl,hc⟩:=h4 hn;refine⟨b,off,rfl,fun j c hj=>?_⟩;obtain⟨ag,cg,ab,cb,a0,a1,a2,a3,a4,a5,a6⟩:=hc j c hj;exact⟨ag,cg,ab,cb,qC hb a0,qC hb a1,qC hb a2,qC hb a3,qC hb a4,a5.below hb,a6.below hb⟩
theorem U2.shape{w:World}{v:Value}{ps:List SProc}(h:U2 w v ps):∃ao cap,v=.slice ao ps.length cap/\ps.length<=cap/\cap<=maxLen:=by obtain⟨ao,cap,h1,h2,h3,_⟩:=h;exact⟨ao,cap,h1,h2,h3⟩
theorem U2.at{w:World}{ao:Option Addr}{n cap:Nat}{ps:List SProc}(h:U2 w (.slice ao n cap) ps){k:Nat}{p:SProc}(hk:ps[k]? = some p):
 ∃b off ag cg ab cb,ao=some ⟨b,off,none⟩/\w.cell? ⟨b,off+k*5,none⟩=some (.slice ag p.got.length cg)/\w.cell? ⟨b,off+k*5+1,none⟩=some (.int .i64 p.pos) /\
  w.cell? ⟨b,off+k*5+2,none⟩=some (.slice ab p.out.length cb)/\w.cell? ⟨b,off+k*5+3,none⟩=some (.bool p.rd)/\w.cell? ⟨b,off+k*5+4,none⟩=some (.bool p.ov)/\RList w (.slice ag p.got.length cg) U p.got/\RList w (.slice ab p.out.length cb) U p.out:=by obtain⟨ao',cap',e,_,_,h5⟩:=h;injection e with e1 e2 e3;subst e1;obtain⟨hkl,_⟩:=gSm hk;obtain⟨b,off,hao,hc⟩:=h5 (by omega);obtain⟨ag,cg,ab,cb,a⟩:=hc k p hk;exact⟨b,off,ag,cg,ab,cb,hao,a⟩
theorem aZ3{w:World}{ao:Option Addr}{n cap:Nat}{ps:List SProc}(h:U2 w (.slice ao n cap) ps):n<=cap/\cap<=9223372036854775807:=by obtain⟨_,c,e,h1,h2⟩:=h.shape;unfold maxLen at h2;injection e with e1 e2 e3;omega
def machV(an af ax ap aS:Option Addr)(M:SMach)(cn cf cx cp cs:Nat):Value:=.agg #[.slice an M.ns.length cn,.slice af M.fs.length cf,.slice ax M.pipes.length cx,.slice ap M.ps.length cp,.slice aS M.sunk.length cs]
structure RMach (w:World) (an af ax ap aS:Option Addr) (cn cf cx cp cs:Nat) (M:SMach):Prop where
 nodes:D4 w (.slice an M.ns.length cn) M.ns
 files:j6 w (.slice af M.fs.length cf) M.fs
 pipes:aa8 w (.slice ax M.pipes.length cx) M.pipes
 procs:U2 w (.slice ap M.ps.length cp) M.ps
 sunk:Reads w (.slice aS M.sunk.length cs) M.sunk.length (M.sunk.map U)
theorem RMach.below{w w':World}{an af ax ap aS:Option Addr}{cn cf cx cp cs:Nat}{M:SMach}(h:RMach w an af ax ap aS cn cf cx cp cs M)(hb:Bq w w'):RMach w' an af ax ap aS cn cf cx cp cs M:=
 ⟨h.nodes.below hb,h.files.below hb,h.pipes.below hb,h.procs.below hb,h.sunk.below hb⟩
structure FitsM (M:SMach):Prop where
 nodes:∀n∈M.ns,S0 n
 files:∀f∈M.fs,M9 f
 pos:∀p∈M.ps,(Lit.int .i64 p.pos).wf=true
theorem aP3{w:World}{ao:Option Addr}{n cap:Nat}{pss:List (List UInt8)}(h:RList w (.slice ao n cap) U pss):n=pss.length/\n<=cap/\cap<=9223372036854775807:=by obtain⟨_,c,e,h1,h2⟩:=h.shape;unfold maxLen at h2;injection e with e1 e2 e3;omega
abbrev Own:=Unit ⊕ Unit ⊕ Unit ⊕ Nat ⊕ Nat ⊕ Nat ⊕ (Nat × Nat) ⊕ (Nat × Nat) ⊕ Unit ⊕ Unit
abbrev Own.box:Own:=.inl ()
abbrev Own.pipes:Own:=.inr (.inl ())
abbrev Own.procs:Own:=.inr (.inr (.inl ()))
abbrev Own.gots(i:Nat):Own:=.inr (.inr (.inr (.inl i)))
abbrev Own.outs(i:Nat):Own:=.inr (.inr (.inr (.inr (.inl i))))
abbrev Own.pipe(q:Nat):Own:=.inr (.inr (.inr (.inr (.inr (.inl q)))))
abbrev Own.got(i j:Nat):Own:=.inr (.inr (.inr (.inr (.inr (.inr (.inl (i,j)))))))
abbrev Own.out(i k:Nat):Own:=.inr (.inr (.inr (.inr (.inr (.inr (.inr (.inl (i,k))))))))
abbrev Own.sunk:Own:=.inr (.inr (.inr (.inr (.inr (.inr (.inr (.inr (.inl ()))))))))
abbrev Own.aux:Own:=.inr (.inr (.inr (.inr (.inr (.inr (.inr (.inr (.inr ()))))))))
theorem Own.elimE{motive:Own->Prop}(box:motive Own.box)(pipes:motive Own.pipes)(procs:motive Own.procs)(gots:∀i,motive (Own.gots i))(outs:∀i,motive (Own.outs i))(pipe:∀q,motive (Own.pipe q))(got:∀i j,motive (Own.got i j))(out:∀i k,motive (Own.out i k))(sunk:motive Own.sunk)(aux:motive Own.aux):∀o,motive o
 | .inl ()=>box
 | .inr (.inl ())=>pipes
 | .inr (.inr (.inl ()))=>procs
 | .inr (.inr (.inr (.inl i)))=>gots i
 | .inr (.inr (.inr (.inr (.inl i))))=>outs i
 | .inr (.inr (.inr (.inr (.inr (.inl q)))))=>pipe q
 | .inr (.inr (.inr (.inr (.inr (.inr (.inl (i,j)))))))=>got i j
 | .inr (.inr (.inr (.inr (.inr (.inr (.inr (.inl (i,k))))))))=>out i k
 | .inr (.inr (.inr (.inr (.inr (.inr (.inr (.inr (.inl ()))))))))=>sunk
 | .inr (.inr (.inr (.inr (.inr (.inr (.inr (.inr (.inr ()))))))))=>aux
abbrev Sl:=Option Addr × Nat
def sl(b:List UInt8)(s:Sl):Value:=.slice s.1 b.length s.2
def nilS:Sl:=(none,0)
def ROf(w:World)(O:Nat->Option Own)(o:Own)(s:Sl)(b:List UInt8):Prop:=
 Reads w (sl b s) b.length (b.map U)/\(s.1=none->s.2=0)/\(b≠[]->∀a,s.1=some a->O a.block=some o)
def SOf(w:World)(O:Nat->Option Own)(o:Own)(s:Sl)(b:List UInt8):Prop:=
 (s=nilS/\b=[])\/∃g off cur,s.1=some ⟨g,off,none⟩/\O g=some o/\w.heap[g]? = some (.cells cur 5 (0,0))/\b.length<=s.2/\s.2<=maxLen/\off+s.2<=cur.size/\(cur.toList.drop off).take b.length=b.map U
theorem SOf.nil(w:World)(O:Nat->Option Own)(o:Own):SOf w O o nilS []:=.inl ⟨rfl,rfl⟩
theorem SOf.reads{w:World}{O:Nat->Option Own}{o:Own}{s:Sl}{b:List UInt8}(h:SOf w O o s b):Reads w (sl b s) b.length (b.map U):=by
 rcases h with⟨rfl,rfl⟩|⟨g,off,cur,hs,ho,hg,h1,h2,h3,h4⟩
 . exact⟨rfl,none,0,rfl,qB _,by simp[maxLen],fun h=>absurd rfl h⟩
 .
  refine⟨by simp,s.1,s.2,rfl,h1,h2,fun hn=>⟨g,off,hs,fun j u hu=>?_⟩⟩;rw[qV _ _ _ _ _ _ hg];rw[<- h4,xR]at hu;split at hu
  . rw[xd]at hu;simpa using hu
  . cases hu
theorem SOf.keep{w w':World}{O O':Nat->Option Own}{o:Own}{s:Sl}{b:List UInt8}(h:SOf w O o s b)(hk:∀k,O k=some o->w'.heap[k]? = w.heap[k]?)(hO:∀k,k<w.heap.size->O' k=O k):SOf w' O' o s b:=by
 rcases h with h | ⟨g,off,cur,hs,ho,hg,h1⟩
 . exact .inl h
 . exact .inr ⟨g,off,cur,hs,(hO g (aSm hg).1).trans ho,(hk g ho).trans hg,h1⟩
theorem SOf.drop{w:World}{O:Nat->Option Own}{o:Own}{s:Sl}{b:List UInt8}(h:SOf w O o s b){g off:Nat}(hs:s.1=some ⟨g,off,none⟩){n:Nat}(hn:n<=b.length)(s':Sl)(hs':s'=(some ⟨g,off+n,none⟩,s.2-n)\/(s'=(some ⟨g,off,none⟩,0)/\n=s.2)):SOf w O o s' (b.drop n):=by
 rcases h with⟨rfl,rfl⟩|⟨g',off',cur,hs2,ho,hg,h1,h2,h3,h4⟩
 . cases hs
 .
  rw[hs]at hs2;injection hs2 with hs2;injection hs2 with e1 e2;subst e1 e2;refine .inr ?_;rcases hs' with rfl | ⟨rfl,hn2⟩
  . refine⟨g,off+n,cur,rfl,ho,hg,by rw[qo];show _<=s.2-n;omega,by show s.2-n<=_;omega,by show off+n+(s.2-n)<=_;omega,?_⟩;rw[List.map_drop,<- h4,<- List.drop_drop,qo,List.drop_take]
  . refine⟨g,off,cur,rfl,ho,hg,by rw[qo];show _<=0;omega,qP _,by show off+0<=_;omega,?_⟩;have:b.drop n=[]:=qt (by omega);rw[this];simp
theorem SOf.of_owns{w:World}{O:Nat->Option Own}{o:Own}{B:Nat}{v:Value}{b:List UInt8}(h:w.ownsRow B 5 1 v b.length (b.map U))(hO:∀g,v.ownBlock=some g->O g=some o):∃s,v=sl b s/\SOf w O o s b/\∀a,s.1=some a->v.ownBlock=some a.block:=by
 rcases h.2 with⟨rfl,h0⟩|⟨g,cap,cur,rfl,hb,hg,h1,h2,h3,h4⟩
 . have:b=[]:=qn.1 h0;subst this;exact⟨nilS,rfl,SOf.nil _ _ _,fun a h=>by cases h⟩
 . refine⟨(some ⟨g,0,none⟩,cap),rfl,.inr ⟨g,0,cur,rfl,hO g rfl,hg,h1,h2,by show 0+cap<=_;omega,?_⟩,fun a h=>by injection h with h;subst h;rfl⟩;rw[List.drop_zero];simpa using h4
theorem ROf.keep{w w':World}{O O':Nat->Option Own}{o:Own}{s:Sl}{b:List UInt8}(h:ROf w O o s b)(hk:∀k,O k=some o->w'.heap[k]? = w.heap[k]?)(hO:∀k o,O k=some o->O' k=O k):ROf w' O' o s b:=by
 refine⟨?_,h.2.1,fun hn a ha=>(hO _ _ (h.2.2 hn a ha)).trans (h.2.2 hn a ha)⟩;by_cases h0:b=[]
 . subst h0;obtain⟨h1,ao,cap,e,h2,h3,h4⟩:=h.1;exact⟨h1,ao,cap,e,h2,h3,fun hn=>absurd rfl hn⟩
 . exact aa1 h.1 (fun a ha=>hk _ (h.2.2 h0 a ha))
theorem ROf.nil(w:World)(O:Nat->Option Own)(o:Own):ROf w O o nilS []:=⟨⟨rfl,none,0,rfl,qB _,by simp[maxLen],fun h=>absurd rfl h⟩,fun _=>rfl,fun h=>absurd rfl h⟩
theorem Y9{k:Nat}:∀(rows:List (List Value))(j:Nat)(row:List Value),(∀r∈rows,r.length=k)->rows[j]? = some row->∀i,i<k->rows.flatten[j*k+i]? = row[i]?
 | [],j,row,_,h,i,_=>by simp at h
 | d::l,0,row,hl,h,i,hi=>by
  simp at h;subst h
  rw[qe,xe (by rw[hl d (by simp)];omega)]
  simp
 | d::l,j+1,row,hl,h,i,hi=>by
  have hd:=hl d (by simp)
  rw[qe,qj (by rw[hd,Nat.add_mul];omega),hd,show (j+1)*k+i-k=j*k+i by rw[Nat.add_mul];omega]
  exact Y9 l j row (fun r hr=>hl r (by simp[hr])) (by simpa using h) i hi
theorem P7{k:Nat}:∀(rows:List (List Value))(j:Nat)(row:List Value),(∀r∈rows,r.length=k)->rows[j]? = some row->∀i u,i<k->rows.flatten.set (j*k+i) u=(rows.set j (row.set i u)).flatten
 | [],j,row,_,h,i,u,_=>by simp at h
 | d::l,0,row,hl,h,i,u,hi=>by
  simp at h;subst h
  rw[qe,List.set_append_left _ _ (by rw[hl d (by simp)];omega)]
  simp
 | d::l,j+1,row,hl,h,i,u,hi=>by
  have hd:=hl d (by simp)
  rw[qe,zC _ _ (by rw[hd,Nat.add_mul];omega),hd,show (j+1)*k+i-k=j*k+i by rw[Nat.add_mul];omega,P7 l j row (fun r hr=>hl r (by simp[hr])) (by simpa using h) i u hi]
  simp
theorem ai4{k:Nat}:∀(rows:List (List Value)),(∀r∈rows,r.length=k)->rows.flatten.length=rows.length*k
 | [],_=>by simp
 | d::l,hl=>by
  rw[qe,qG,hl d (by simp),ai4 l (fun r hr=>hl r (by simp[hr])),qY,Nat.add_mul]
  omega
theorem Y5{α β γ:Type}{f:α->β->γ}{xs:List α}{ys:List β}{j:Nat}{x:α}{y:β}(hx:xs[j]? = some x)(hy:ys[j]? = some y):(List.zipWith f xs ys)[j]? = some (f x y):=by rw[List.getElem?_zipWith,hx,hy]
theorem ae7{α β γ:Type}{f:α->β->γ}:∀(xs:List α)(ys:List β)(j:Nat)(x:α)(y:β),(List.zipWith f xs ys).set j (f x y)=List.zipWith f (xs.set j x) (ys.set j y)
 | [],ys,j,x,y=>by simp
 | a::xs,[],j,x,y=>by simp
 | a::xs,b::ys,0,x,y=>by simp
 | a::xs,b::ys,j+1,x,y=>by simp[ae7 xs ys j x y]
def K2(x:SPipe)(s:Sl):List Value:=[sl x.b s,.int .i64 x.room,.bool x.closed,.bool x.shut]
def y9(xs:List SPipe)(X:List Sl):List (List Value):=List.zipWith K2 xs X
theorem J5(xs:List SPipe)(X:List Sl):∀r∈y9 xs X,r.length=4:=by intro r hr;obtain⟨i,hi⟩:=qb hr;unfold y9 at hi;obtain⟨x,y,_,_,e⟩:=zM.1 hi;rw[<- e];rfl
structure PSlot where
 gv:Value
 ov:Value
 gs:List Sl
 os:List Sl
def H3(p:SProc)(s:PSlot):List Value:=[s.gv,.int .i64 p.pos,s.ov,.bool p.rd,.bool p.ov]
def v6(ps:List SProc)(P:List PSlot):List (List Value):=List.zipWith H3 ps P
theorem J6(ps:List SProc)(P:List PSlot):∀r∈v6 ps P,r.length=5:=by intro r hr;obtain⟨i,hi⟩:=qb hr;unfold v6 at hi;obtain⟨x,y,_,_,e⟩:=zM.1 hi;rw[<- e];rfl
def P8(l:List (List UInt8))(ss:List Sl):List Value:=List.zipWith sl l ss
structure RD where
 M:SMach
 vN:Value
 vF:Value
 vX:Value
 vP:Value
 vI:Value
 vM:Value
 sS:Sl
 X:List Sl
 P:List PSlot
def R7(O:Nat->Option Own)(v:Value)(o:Own):Prop:=∀g,v.ownBlock=some g->O g=some o
def Part(w:World)(D r:Nat)(O:Nat->Option Own)(A:World->(Nat->Option Own)->Prop)(d:RD):Own->Prop
 | .inl ()=>w.heap[r]? = some (.cells #[d.vN,d.vF,d.vX,d.vP,sl d.M.sunk d.sS,d.vI,d.vM] 111 (0,0))/\O r=some .box
 | .inr (.inl ())=>w.ownsRow D 66 4 d.vX d.M.pipes.length (y9 d.M.pipes d.X).flatten/\R7 O d.vX .pipes
 | .inr (.inr (.inl ()))=>w.ownsRow D 76 5 d.vP d.M.ps.length (v6 d.M.ps d.P).flatten/\R7 O d.vP .procs
 | .inr (.inr (.inr (.inl i)))=>∀p s,d.M.ps[i]? = some p->d.P[i]? = some s->w.ownsRow D 28 1 s.gv p.got.length (P8 p.got s.gs)/\R7 O s.gv (.gots i)
 | .inr (.inr (.inr (.inr (.inl i))))=>∀p s,d.M.ps[i]? = some p->d.P[i]? = some s->w.ownsRow D 28 1 s.ov p.out.length (P8 p.out s.os)/\R7 O s.ov (.outs i)
 | .inr (.inr (.inr (.inr (.inr (.inl q)))))=>∀x s,d.M.pipes[q]? = some x->d.X[q]? = some s->ROf w O (.pipe q) s x.b
 | .inr (.inr (.inr (.inr (.inr (.inr (.inl (i,j)))))))=>∀p s b a,d.M.ps[i]? = some p->d.P[i]? = some s->p.got[j]? = some b->s.gs[j]? = some a->SOf w O (.got i j) a b
 | .inr (.inr (.inr (.inr (.inr (.inr (.inr (.inl (i,k))))))))=>∀p s b a,d.M.ps[i]? = some p->d.P[i]? = some s->p.out[k]? = some b->s.os[k]? = some a->SOf w O (.out i k) a b
 | .inr (.inr (.inr (.inr (.inr (.inr (.inr (.inr (.inl ()))))))))=>SOf w O .sunk d.sS d.M.sunk
 | .inr (.inr (.inr (.inr (.inr (.inr (.inr (.inr (.inr ()))))))))=>A w O
def ao8(A:World->(Nat->Option Own)->Prop):Prop:=∀(w w':World)(O O':Nat->Option Own),A w O->(∀k,O k=some .aux->w'.heap[k]? = w.heap[k]?)->(∀k o,O k=some o->O' k=O k)->A w' O'
theorem l6{w w':World}{B:Nat}{e:TypeId}{size n:Nat}{v:Value}{xs:List Value}(h:w.ownsRow B e size v n xs)(hk:∀g,v.ownBlock=some g->w'.heap[g]? = w.heap[g]?):w'.ownsRow B e size v n xs:=by
 refine⟨h.1,?_⟩;rcases h.2 with h0 | ⟨g,cap,cur,e1,hb,h1,h2⟩
 . exact .inl h0
 . refine .inr ⟨g,cap,cur,e1,hb,?_,h2⟩;rw[hk g (by rw[e1];rfl)];exact h1
theorem Part.keep{w w':World}{D r:Nat}{O O':Nat->Option Own}{A:World->(Nat->Option Own)->Prop}(hA:ao8 A){d:RD}{o:Own}(h:Part w D r O A d o)(hk:∀k,O k=some o->w'.heap[k]? = w.heap[k]?)(hO:∀k o,O k=some o->O' k=O k)(hlo:∀k o,O k=some o->k<w.heap.size)(hO2:∀k,k<w.heap.size->O' k=O k):Part w' D r O' A d o:=by
 have Ab:∀v:Value,R7 O v o->R7 O' v o:=fun v hv g hg=>(hO _ _ (hv g hg)).trans (hv g hg)
 cases o using Own.elimE with
 | box=>exact⟨(hk r h.2).trans h.1,(hO _ _ h.2).trans h.2⟩
 | pipes=>exact⟨l6 h.1 (fun g hg=>hk g (h.2 g hg)),Ab _ h.2⟩
 | procs=>exact⟨l6 h.1 (fun g hg=>hk g (h.2 g hg)),Ab _ h.2⟩
 | gots i=>exact fun p s hp hs=>⟨l6 (h p s hp hs).1 (fun g hg=>hk g ((h p s hp hs).2 g hg)),Ab _ (h p s hp hs).2⟩
 | outs i=>exact fun p s hp hs=>⟨l6 (h p s hp hs).1 (fun g hg=>hk g ((h p s hp hs).2 g hg)),Ab _ (h p s hp hs).2⟩
 | pipe q=>exact fun x s hx hs=>(h x s hx hs).keep hk hO
 | got i j=>exact fun p s b a hp hs hb ha=>(h p s b a hp hs hb ha).keep hk hO2
 | out i k=>exact fun p s b a hp hs hb ha=>(h p s b a hp hs hb ha).keep hk hO2
 | sunk=>exact SOf.keep h hk hO2
 | aux=>exact hA w w' O O' h hk hO
structure RMem (w:World) (D r:Nat) (O:Nat->Option Own) (A:World->(Nat->Option Own)->Prop) (d:RD):Prop where
 lo:∀g o,O g=some o->D<=g/\g<w.heap.size
 base:∃w0:World,w0.heap.size=D/\Below D w0 w/\D4 w0 d.vN d.M.ns/\j6 w0 d.vF d.M.fs
 xlen:d.X.length=d.M.pipes.length
 plen:d.P.length=d.M.ps.length
 slen:∀(i:Nat)(p:SProc)(s:PSlot),d.M.ps[i]? = some p->d.P[i]? = some s->s.gs.length=p.got.length/\s.os.length=p.out.length
 aux:ao8 A
 part:∀o,Part w D r O A d o
theorem RMem.nodes{w:World}{D r:Nat}{O:Nat->Option Own}{A:World->(Nat->Option Own)->Prop}{d:RD}(h:RMem w D r O A d):D4 w d.vN d.M.ns/\j6 w d.vF d.M.fs:=by obtain⟨w0,h1,h2,h3,h4⟩:=h.base;subst h1;exact⟨h3.below h2,h4.below h2⟩
theorem RMem.le{w:World}{D r:Nat}{O:Nat->Option Own}{A:World->(Nat->Option Own)->Prop}{d:RD}(h:RMem w D r O A d):D<=w.heap.size:=by obtain⟨w0,h1,h2,_⟩:=h.base;have:=h2.size;omega
structure Touch (O:Nat->Option Own) (o:Own) (w w':World):Prop where
 os:w'.os=w.os
 tape:w'.tape=w.tape
 output:w'.output=w.output
 size:w.heap.size<=w'.heap.size
 block:∀k,k<w.heap.size->O k≠some o->w'.heap[k]? = w.heap[k]?
theorem Touch.of_below{O:Nat->Option Own}{o:Own}{w w':World}(h:Bq w w'):Touch O o w w':=⟨h.os,h.tape,h.output,h.size,fun k hk _=>h.block k hk⟩
theorem Touch.set{O:Nat->Option Own}{o:Own}{w w':World}(h:Touch O o w w'){a:Addr}{v:Value}(ha:O a.block=some o):Touch O o w (w'.setCell a v):=
 ⟨h.os,h.tape,h.output,by simpa using h.size,fun k hk hn=>(qJ _ _ _ _ (fun e=>hn (by rw[e];exact ha))).trans (h.block k hk hn)⟩
theorem Touch.refl(O:Nat->Option Own)(o:Own)(w:World):Touch O o w w:=⟨rfl,rfl,rfl,qB _,fun _ _ _=>rfl⟩
theorem Touch.below{w w':World}{D r:Nat}{O:Nat->Option Own}{A:World->(Nat->Option Own)->Prop}{d:RD}(h:RMem w D r O A d){o:Own}(t:Touch O o w w'):Below D w w':=
 ⟨t.os,t.tape,t.output,t.size,fun k hk=>t.block k (by have:=h.le;omega) (fun e=>by have:=(h.lo k o e).1;omega)⟩
theorem RMem.upd{w w':World}{D r:Nat}{O O':Nat->Option Own}{A:World->(Nat->Option Own)->Prop}{d d':RD}(h:RMem w D r O A d){o:Own}(t:Touch O o w w')(hO:∀k,k<w.heap.size->O' k=O k)(hlo:∀g o,O' g=some o->D<=g/\g<w'.heap.size)
 (hN:d'.vN=d.vN) (hF:d'.vF=d.vF) (hns:d'.M.ns=d.M.ns) (hfs:d'.M.fs=d.M.fs) (hxl:d'.X.length=d'.M.pipes.length) (hpl:d'.P.length=d'.M.ps.length)
 (hsl:∀(i:Nat)(p:SProc)(s:PSlot),d'.M.ps[i]? = some p->d'.P[i]? = some s->s.gs.length=p.got.length/\s.os.length=p.out.length)
 (Ju:∀o',o'≠o->Part w D r O A d o'->Part w D r O A d' o') (Ab:Part w' D r O' A d' o):RMem w' D r O' A d':=by
 have hb:=t.below h;obtain⟨w0,b1,b2,b3,b4⟩:=h.base;refine⟨hlo,⟨w0,b1,b2.trans hb,by rw[hN,hns];exact b3,by rw[hF,hfs];exact b4⟩,hxl,hpl,hsl,h.aux,fun o'=>?_⟩;by_cases e:o'=o
 . subst e;exact Ab
 . exact (Ju o' e (h.part o')).keep h.aux (fun k hk=>t.block k (h.lo k o' hk).2 (fun e2=>e (by rw[hk]at e2;injection e2))) (fun k o2 hk=>hO k (h.lo k o2 hk).2) (fun k o2 hk=>(h.lo k o2 hk).2) hO
def RD.setPipe(d:RD)(q:Nat)(x:SPipe)(s:Sl):RD:=⟨d.M.setX q x,d.vN,d.vF,d.vX,d.vP,d.vI,d.vM,d.sS,d.X.set q s,d.P⟩
def RD.setProc(d:RD)(i:Nat)(p:SProc)(s:PSlot):RD:=⟨d.M.setP i p,d.vN,d.vF,d.vX,d.vP,d.vI,d.vM,d.sS,d.X,d.P.set i s⟩
def RD.setSunk(d:RD)(b:List UInt8)(s:Sl):RD:=⟨⟨d.M.ns,d.M.fs,d.M.pipes,d.M.ps,b⟩,d.vN,d.vF,d.vX,d.vP,d.vI,d.vM,s,d.X,d.P⟩
section
variable {w w':World} {D r:Nat} {O O':Nat->Option Own} {A:World->(Nat->Option Own)->Prop} {d:RD}
theorem RMem.grow(h:RMem w D r O A d)(hb:Bq w w')(hO:∀k,k<w.heap.size->O' k=O k)(hlo:∀g o,O' g=some o->w.heap.size<=g->g<w'.heap.size):RMem w' D r O' A d:=by
 have hle:=h.le;refine h.upd (o:=.aux) (Touch.of_below hb) hO (fun g o hg=>?_) rfl rfl rfl rfl h.xlen h.plen h.slen (fun _ _ hp=>hp) ?_
 .
  by_cases hgs:g<w.heap.size
  . have:=h.lo g o (by rw[<- hO g hgs];exact hg);have:=hb.size;omega
  . exact⟨by omega,hlo g o hg (by omega)⟩
 . exact (h.part .aux).keep h.aux (fun k hk=>hb.block k (h.lo k _ hk).2) (fun k o hk=>hO k (h.lo k o hk).2) (fun k o hk=>(h.lo k o hk).2) hO
theorem RMem.below(h:RMem w D r O A d)(hb:Bq w w'):RMem w' D r O A d:=h.grow hb (fun _ _=>rfl) (fun g o hg hge=>absurd (h.lo g o hg).2 (by omega))
theorem K6{w:World}{k:Nat}{a b c d e f g:Value}{t:TypeId}(h:w.heap[k]? = some (.cells #[a,b,c,d,e,f,g] t (0,0))):
 w.cell? ⟨k,0,none⟩=some a/\w.cell? ⟨k,1,none⟩=some b/\w.cell? ⟨k,2,none⟩=some c/\w.cell? ⟨k,3,none⟩=some d/\w.cell? ⟨k,4,none⟩=some e/\w.cell? ⟨k,5,none⟩=some f/\w.cell? ⟨k,6,none⟩=some g:=by
 refine⟨?_,?_,?_,?_,?_,?_,?_⟩
 all_goals
  rw[qV _ _ _ _ _ _ h];rfl
theorem RMem.box(h:RMem w D r O A d):w.heap[r]? = some (.cells #[d.vN,d.vF,d.vX,d.vP,sl d.M.sunk d.sS,d.vI,d.vM] 111 (0,0))/\O r=some .box:=h.part .box
theorem j5{B:Nat}{e:TypeId}{size n:Nat}{v:Value}{xs:List Value}(h:w.ownsRow B e size v n xs):(∃ao cap,v=.slice ao n cap/\n<=cap/\cap<=maxLen)/\(n≠0->∃g cap,v=.slice (some ⟨g,0,none⟩) n cap/\n<=cap/\cap<=9223372036854775807/\g<w.heap.size/\(∀j,j<n*size->w.cell? ⟨g,j,none⟩=xs[j]?)/\∀j,w.frozen? ⟨g,j,none⟩=false):=by
 rcases id h.2 with⟨rfl,h0⟩|⟨g,cap,cur,rfl,hb,hg,h1,h2,h3,h4⟩
 . exact⟨⟨none,0,by rw[h0],by omega,by simp[maxLen]⟩,fun hn=>absurd h0 hn⟩
 . exact⟨⟨_,cap,rfl,h1,h2⟩,fun _=>⟨g,cap,rfl,h1,by unfold maxLen at h2;omega,(aSm hg).1,fun j hj=>h.cellAt j hj,fun j=>xK _ _ _ _ _ hg⟩⟩
theorem RMem.pipeAt(h:RMem w D r O A d){q:Nat}{x:SPipe}(hx:d.M.pipes[q]? = some x):
 ∃g c s,d.vX=.slice (some ⟨g,0,none⟩) d.M.pipes.length c/\d.M.pipes.length<=c/\c<=9223372036854775807/\g<w.heap.size/\O g=some .pipes/\d.X[q]? = some s/\ROf w O (.pipe q) s x.b /\
  w.cell? ⟨g,q*4,none⟩=some (sl x.b s)/\w.cell? ⟨g,q*4+1,none⟩=some (.int .i64 x.room)/\w.cell? ⟨g,q*4+2,none⟩=some (.bool x.closed)/\w.cell? ⟨g,q*4+3,none⟩=some (.bool x.shut)/\∀j,w.frozen? ⟨g,j,none⟩=false:=by
 have hql:q<d.M.pipes.length:=(gSm hx).1;obtain⟨h1,h2⟩:=h.part .pipes;obtain⟨g,c,e,hc,hc2,hg,Ac,hf⟩:=(j5 h1).2 (by omega);obtain⟨s,hs⟩:∃s,d.X[q]? = some s:=⟨_,gEl (by rw[h.xlen];exact hql)⟩;have An:(y9 d.M.pipes d.X)[q]? = some (K2 x s):=Y5 hx hs;have hat:=Y9 _ q _ (J5 d.M.pipes d.X) An;refine⟨g,c,s,e,hc,hc2,hg,h2 g (by rw[e];rfl),hs,h.part (.pipe q) x s hx hs,?_,?_,?_,?_,hf⟩
 . rw[Ac _ (by omega)];exact hat 0 (by omega)
 . rw[Ac _ (by omega)];exact hat 1 (by omega)
 . rw[Ac _ (by omega)];exact hat 2 (by omega)
 . rw[Ac _ (by omega)];exact hat 3 (by omega)
theorem RMem.procAt(h:RMem w D r O A d){i:Nat}{p:SProc}(hp:d.M.ps[i]? = some p):
 ∃g c s,d.vP=.slice (some ⟨g,0,none⟩) d.M.ps.length c/\d.M.ps.length<=c/\c<=9223372036854775807/\g<w.heap.size/\O g=some .procs/\d.P[i]? = some s /\
  w.cell? ⟨g,i*5,none⟩=some s.gv/\w.cell? ⟨g,i*5+1,none⟩=some (.int .i64 p.pos)/\w.cell? ⟨g,i*5+2,none⟩=some s.ov/\w.cell? ⟨g,i*5+3,none⟩=some (.bool p.rd)/\w.cell? ⟨g,i*5+4,none⟩=some (.bool p.ov)/\(∀j,w.frozen? ⟨g,j,none⟩=false) /\
  w.ownsRow D 28 1 s.gv p.got.length (P8 p.got s.gs)/\w.ownsRow D 28 1 s.ov p.out.length (P8 p.out s.os)/\s.gs.length=p.got.length/\s.os.length=p.out.length:=by
 have hil:i<d.M.ps.length:=(gSm hp).1;obtain⟨h1,h2⟩:=h.part .procs;obtain⟨g,c,e,hc,hc2,hg,Ac,hf⟩:=(j5 h1).2 (by omega);obtain⟨s,hs⟩:∃s,d.P[i]? = some s:=⟨_,gEl (by rw[h.plen];exact hil)⟩;have An:(v6 d.M.ps d.P)[i]? = some (H3 p s):=Y5 hp hs;have hat:=Y9 _ i _ (J6 d.M.ps d.P) An;refine⟨g,c,s,e,hc,hc2,hg,h2 g (by rw[e];rfl),hs,?_,?_,?_,?_,?_,hf,(h.part (.gots i) p s hp hs).1,(h.part (.outs i) p s hp hs).1,(h.slen i p s hp hs).1,(h.slen i p s hp hs).2⟩
 . rw[Ac _ (by omega)];exact hat 0 (by omega)
 . rw[Ac _ (by omega)];exact hat 1 (by omega)
 . rw[Ac _ (by omega)];exact hat 2 (by omega)
 . rw[Ac _ (by omega)];exact hat 3 (by omega)
 . rw[Ac _ (by omega)];exact hat 4 (by omega)
theorem az7{l:List (List UInt8)}{ss:List Sl}{j:Nat}{b:List UInt8}{s:Sl}(hb:l[j]? = some b)(hs:ss[j]? = some s):(P8 l ss)[j]? = some (sl b s):=Y5 hb hs
theorem RMem.gotAt(h:RMem w D r O A d){i j:Nat}{p:SProc}{s:PSlot}{b:List UInt8}(hp:d.M.ps[i]? = some p)(hs:d.P[i]? = some s)(hb:p.got[j]? = some b):
 ∃g c a,s.gv=.slice (some ⟨g,0,none⟩) p.got.length c/\p.got.length<=c/\c<=9223372036854775807/\g<w.heap.size/\O g=some (.gots i)/\s.gs[j]? = some a/\SOf w O (.got i j) a b/\w.cell? ⟨g,j,none⟩=some (sl b a)/\∀j,w.frozen? ⟨g,j,none⟩=false:=by have hjl:j<p.got.length:=(gSm hb).1;obtain⟨h1,h2⟩:=h.part (.gots i) p s hp hs;obtain⟨g,c,e,hc,hc2,hg,Ac,hf⟩:=(j5 h1).2 (by omega);obtain⟨a,ha⟩:∃a,s.gs[j]? = some a:=⟨_,gEl (by rw[(h.slen i p s hp hs).1];exact hjl)⟩;exact⟨g,c,a,e,hc,hc2,hg,h2 g (by rw[e];rfl),ha,h.part (.got i j) p s b a hp hs hb ha,by rw[Ac _ (by omega)];exact az7 hb ha,hf⟩
theorem RMem.outAt(h:RMem w D r O A d){i j:Nat}{p:SProc}{s:PSlot}{b:List UInt8}(hp:d.M.ps[i]? = some p)(hs:d.P[i]? = some s)(hb:p.out[j]? = some b):
 ∃g c a,s.ov=.slice (some ⟨g,0,none⟩) p.out.length c/\p.out.length<=c/\c<=9223372036854775807/\g<w.heap.size/\O g=some (.outs i)/\s.os[j]? = some a/\SOf w O (.out i j) a b/\w.cell? ⟨g,j,none⟩=some (sl b a)/\∀j,w.frozen? ⟨g,j,none⟩=false:=by have hjl:j<p.out.length:=(gSm hb).1;obtain⟨h1,h2⟩:=h.part (.outs i) p s hp hs;obtain⟨g,c,e,hc,hc2,hg,Ac,hf⟩:=(j5 h1).2 (by omega);obtain⟨a,ha⟩:∃a,s.os[j]? = some a:=⟨_,gEl (by rw[(h.slen i p s hp hs).2];exact hjl)⟩;exact⟨g,c,a,e,hc,hc2,hg,h2 g (by rw[e];rfl),ha,h.part (.out i j) p s b a hp hs hb ha,by rw[Ac _ (by omega)];exact az7 hb ha,hf⟩
theorem bq3{B:Nat}{v:Value}{l:List (List UInt8)}{ss:List Sl}(h:w.ownsRow B 28 1 v l.length (P8 l ss))(hl:ss.length=l.length)(hs:∀(j:Nat)(b:List UInt8)(a:Sl),l[j]? = some b->ss[j]? = some a->Reads w (sl b a) b.length (b.map U)):RList w v U l:=by refine⟨P8 l ss,Reads.of_owns h,fun j b hb=>?_⟩;obtain⟨a,ha⟩:∃a,ss[j]? = some a:=⟨_,gEl (by rw[hl];exact (gSm hb).1)⟩;exact⟨_,az7 hb ha,hs j b a hb ha⟩
theorem RMem.gots(h:RMem w D r O A d){i:Nat}{p:SProc}{s:PSlot}(hp:d.M.ps[i]? = some p)(hs:d.P[i]? = some s):RList w s.gv U p.got:=
 bq3 (h.part (.gots i) p s hp hs).1 (h.slen i p s hp hs).1 (fun j b a hb ha=>(h.part (.got i j) p s b a hp hs hb ha).reads)
theorem RMem.outs(h:RMem w D r O A d){i:Nat}{p:SProc}{s:PSlot}(hp:d.M.ps[i]? = some p)(hs:d.P[i]? = some s):RList w s.ov U p.out:=
 bq3 (h.part (.outs i) p s hp hs).1 (h.slen i p s hp hs).2 (fun j b a hb ha=>(h.part (.out i j) p s b a hp hs hb ha).reads)
theorem C4{α:Type}{l:List α}{i j:Nat}{a:α}(h:i≠j):(l.set i a)[j]? = l[j]?:=by rw[xJ,qA h]
theorem x9{α:Type}{l:List α}{i:Nat}{a b:α}(h:l[i]? = some b):(l.set i a)[i]? = some a:=by rw[xJ,qF rfl,qF (gSm h).1]
theorem ak8(h:RMem w D r O A d)(hs:w.heap.size<=w'.heap.size):∀g o,O g=some o->D<=g/\g<w'.heap.size:=fun g o hg=>⟨(h.lo g o hg).1,by have:=(h.lo g o hg).2;omega⟩
theorem az8(h:RMem w D r O A d){i:Nat}{p':SProc}{s':PSlot}(h1:s'.gs.length=p'.got.length)(h2:s'.os.length=p'.out.length):∀(j:Nat)(p:SProc)(s:PSlot),(d.M.ps.set i p')[j]? = some p->(d.P.set i s')[j]? = some s->s.gs.length=p.got.length/\s.os.length=p.out.length:=by
 intro j p s hp hs;by_cases e:i=j
 .
  subst e;rw[xJ,qF rfl]at hp hs;split at hp
  . split at hs
    . injection hp with hp;injection hs with hs;subst hp hs;exact⟨h1,h2⟩
    . cases hs
  . cases hp
 . rw[C4 e]at hp hs;exact h.slen j p s hp hs
theorem RMem.setPipe(h:RMem w D r O A d){q g c:Nat}{x x':SPipe}{s':Sl}(hx:d.M.pipes[q]? = some x)(hv:d.vX=.slice (some ⟨g,0,none⟩) d.M.pipes.length c)(hg:O g=some .pipes)(hr:ROf w O (.pipe q) s' x'.b):
 RMem ((((w.setCell ⟨g,q*4,none⟩ (sl x'.b s')).setCell ⟨g,q*4+1,none⟩ (.int .i64 x'.room)).setCell ⟨g,q*4+2,none⟩ (.bool x'.closed)).setCell ⟨g,q*4+3,none⟩ (.bool x'.shut)) D r O A (d.setPipe q x' s'):=by
 have hql:q<d.M.pipes.length:=(gSm hx).1;obtain⟨s,hs⟩:∃s,d.X[q]? = some s:=⟨_,gEl (by rw[h.xlen];exact hql)⟩;refine h.upd (o:=.pipes) ((((Touch.refl O .pipes w).set hg).set hg).set hg |>.set hg) (fun _ _=>rfl) (ak8 h (by simp)) rfl rfl rfl rfl (by simpa[RD.setPipe,SMach.setX]using h.xlen) h.plen h.slen ?_ ?_
 .
  intro o' ho' hp
  cases o' using Own.elimE with
  | pipes=>exact absurd rfl ho'
  | pipe q'=>
   intro y t hy ht
   by_cases e:q=q'
   .
    subst e
    have e1:y=x':=by
     have:(d.M.pipes.set q x')[q]? = some y:=hy
     rw[x9 hx]at this
     injection this with this
     exact this.symm
    have e2:t=s':=by
     have:(d.X.set q s')[q]? = some t:=ht
     rw[x9 hs]at this
     injection this with this
     exact this.symm
    subst e1 e2
    exact hr
   . exact hp y t (by have:(d.M.pipes.set q x')[q']? = some y:=hy;rwa [C4 e]at this) (by have:(d.X.set q s')[q']? = some t:=ht;rwa [C4 e]at this)
  | box=>exact hp
  | procs=>exact hp
  | gots i=>exact hp
  | outs i=>exact hp
  | got i j=>exact hp
  | out i j=>exact hp
  | sunk=>exact hp
  | aux=>exact hp
 .
  obtain⟨h1,h2⟩:=h.part .pipes;refine⟨?_,h2⟩;have An:(y9 d.M.pipes d.X)[q]? = some (K2 x s):=Y5 hx hs;have hl:=J5 d.M.pipes d.X;rw[hv]at h1;have k0:=J3 h1 (q*4) (by omega) (sl x'.b s');have k1:=J3 k0 (q*4+1) (by omega) (.int .i64 x'.room);have k2:=J3 k1 (q*4+2) (by omega) (.bool x'.closed);have k3:=J3 k2 (q*4+3) (by omega) (.bool x'.shut);have e1:(((((y9 d.M.pipes d.X).flatten.set (q*4) (sl x'.b s')).set (q*4+1) (.int .i64 x'.room)).set (q*4+2) (.bool x'.closed)).set (q*4+3) (.bool x'.shut))=(y9 (d.M.pipes.set q x') (d.X.set q s')).flatten:=by
   have f0:=P7 _ q _ hl An 0 (sl x'.b s') (by omega);rw[Nat.add_zero]at f0;rw[f0];have hl1:∀r∈(y9 d.M.pipes d.X).set q ((K2 x s).set 0 (sl x'.b s')),r.length=4:=fun r hr=>by
    rcases xm hr with h | h
    . exact hl r h
    . rw[h];rfl
   rw[P7 _ q _ hl1 (x9 An) 1 (.int .i64 x'.room) (by omega),ze];have hl2:∀r∈(y9 d.M.pipes d.X).set q (((K2 x s).set 0 (sl x'.b s')).set 1 (.int .i64 x'.room)),r.length=4:=fun r hr=>by
    rcases xm hr with h | h
    . exact hl r h
    . rw[h];rfl
   rw[P7 _ q _ hl2 (x9 An) 2 (.bool x'.closed) (by omega),ze];have hl3:∀r∈(y9 d.M.pipes d.X).set q ((((K2 x s).set 0 (sl x'.b s')).set 1 (.int .i64 x'.room)).set 2 (.bool x'.closed)),r.length=4:=fun r hr=>by
    rcases xm hr with h | h
    . exact hl r h
    . rw[h];rfl
   rw[P7 _ q _ hl3 (x9 An) 3 (.bool x'.shut) (by omega),ze];unfold y9;rw[<- ae7];rfl
  rw[e1]at k3;have hlen:(d.setPipe q x' s').M.pipes.length=d.M.pipes.length:=by simp[RD.setPipe,SMach.setX]
  show World.ownsRow _ D 66 4 d.vX (d.setPipe q x' s').M.pipes.length _;rw[hlen,hv];exact k3
theorem RMem.setClosed(h:RMem w D r O A d){q g c:Nat}{x:SPipe}{s:Sl}(hx:d.M.pipes[q]? = some x)(hs:d.X[q]? = some s)(hv:d.vX=.slice (some ⟨g,0,none⟩) d.M.pipes.length c)(hg:O g=some .pipes):
 RMem (w.setCell ⟨g,q*4+2,none⟩ (.bool true)) D r O A (d.setPipe q (U1 x) s):=by
 have hql:q<d.M.pipes.length:=(gSm hx).1;refine h.upd (o:=.pipes) ((Touch.refl O .pipes w).set hg) (fun _ _=>rfl) (ak8 h (by simp)) rfl rfl rfl rfl (by simpa[RD.setPipe,SMach.setX]using h.xlen) h.plen h.slen ?_ ?_
 .
  intro o' ho' hp
  cases o' using Own.elimE with
  | pipes=>exact absurd rfl ho'
  | pipe q'=>
   intro y t hy ht
   by_cases e:q=q'
   .
    subst e
    have e1:y=U1 x:=by
     have:(d.M.pipes.set q (U1 x))[q]? = some y:=hy
     rw[x9 hx]at this
     injection this with this
     exact this.symm
    have e2:t=s:=by
     have:(d.X.set q s)[q]? = some t:=ht
     rw[x9 hs]at this
     injection this with this
     exact this.symm
    subst e1 e2
    exact hp x t hx hs
   . exact hp y t (by have:(d.M.pipes.set q (U1 x))[q']? = some y:=hy;rwa [C4 e]at this) (by have:(d.X.set q s)[q']? = some t:=ht;rwa [C4 e]at this)
  | box=>exact hp
  | procs=>exact hp
  | gots i=>exact hp
  | outs i=>exact hp
  | got i j=>exact hp
  | out i j=>exact hp
  | sunk=>exact hp
  | aux=>exact hp
 .
  obtain⟨h1,h2⟩:=h.part .pipes;refine⟨?_,h2⟩;have An:(y9 d.M.pipes d.X)[q]? = some (K2 x s):=Y5 hx hs;have hl:=J5 d.M.pipes d.X;rw[hv]at h1;have k0:=J3 h1 (q*4+2) (by omega) (.bool true);rw[P7 _ q _ hl An 2 (.bool true) (by omega)]at k0;have e1:(y9 d.M.pipes d.X).set q ((K2 x s).set 2 (.bool true))=y9 (d.M.pipes.set q (U1 x)) (d.X.set q s):=by unfold y9;rw[<- ae7];rfl
  rw[e1]at k0;have hlen:(d.setPipe q (U1 x) s).M.pipes.length=d.M.pipes.length:=by simp[RD.setPipe,SMach.setX]
  show World.ownsRow _ D 66 4 d.vX (d.setPipe q (U1 x) s).M.pipes.length _;rw[hlen,hv];exact k0
theorem RMem.setNum(h:RMem w D r O A d){i g c k:Nat}{p p':SProc}{s:PSlot}{u:Value}(hp:d.M.ps[i]? = some p)(hs:d.P[i]? = some s)(hv:d.vP=.slice (some ⟨g,0,none⟩) d.M.ps.length c)(hg:O g=some .procs)(hk:k<5)(An:(H3 p s).set k u=H3 p' s)(Bc:p'.got=p.got)(Am:p'.out=p.out):
 RMem (w.setCell ⟨g,i*5+k,none⟩ u) D r O A (d.setProc i p' s):=by
 have hil:i<d.M.ps.length:=(gSm hp).1;have hss:d.P.set i s=d.P:=by
  apply xX;intro j;by_cases e:i=j
  . subst e;rw[x9 hs,hs]
  . rw[C4 e]
 have hpn:∀(j:Nat)(q:SProc),(d.M.ps.set i p')[j]? = some q->∃q0,d.M.ps[j]? = some q0/\q.got=q0.got/\q.out=q0.out:=by
  intro j q hq;by_cases e:i=j
  . subst e;rw[x9 hp]at hq;injection hq with hq;subst hq;exact⟨p,hp,Bc,Am⟩
  . rw[C4 e]at hq;exact⟨q,hq,rfl,rfl⟩
 have hPs:(d.setProc i p' s).P=d.P:=hss;refine h.upd (o:=.procs) ((Touch.refl O .procs w).set hg) (fun _ _=>rfl) (ak8 h (by simp)) rfl rfl rfl rfl h.xlen (by simpa[RD.setProc,SMach.setP]using h.plen) (az8 h (by rw[Bc];exact (h.slen i p s hp hs).1) (by rw[Am];exact (h.slen i p s hp hs).2)) ?_ ?_
 .
  intro o' ho' hpt
  cases o' using Own.elimE with
  | procs=>exact absurd rfl ho'
  | gots j=>
   intro q t hq ht
   rw[hPs]at ht
   obtain⟨q0,h1,h2,h3⟩:=hpn j q hq
   rw[h2];exact hpt q0 t h1 ht
  | outs j=>
   intro q t hq ht
   rw[hPs]at ht
   obtain⟨q0,h1,h2,h3⟩:=hpn j q hq
   rw[h3];exact hpt q0 t h1 ht
  | got j k=>
   intro q t b a hq ht hb ha
   rw[hPs]at ht
   obtain⟨q0,h1,h2,h3⟩:=hpn j q hq
   rw[h2]at hb;exact hpt q0 t b a h1 ht hb ha
  | out j k=>
   intro q t b a hq ht hb ha
   rw[hPs]at ht
   obtain⟨q0,h1,h2,h3⟩:=hpn j q hq
   rw[h3]at hb;exact hpt q0 t b a h1 ht hb ha
  | box=>exact hpt
  | pipes=>exact hpt
  | pipe q=>exact hpt
  | sunk=>exact hpt
  | aux=>exact hpt
 .
  obtain⟨h1,h2⟩:=h.part .procs;refine⟨?_,h2⟩;have hr0:(v6 d.M.ps d.P)[i]? = some (H3 p s):=Y5 hp hs;have hl:=J6 d.M.ps d.P;rw[hv]at h1;have k0:=J3 h1 (i*5+k) (by omega) u;rw[P7 _ i _ hl hr0 k u hk,An]at k0;have e1:(v6 d.M.ps d.P).set i (H3 p' s)=v6 (d.M.ps.set i p') (d.P.set i s):=by unfold v6;rw[<- ae7]
  rw[e1]at k0;have hlen:(d.setProc i p' s).M.ps.length=d.M.ps.length:=by simp[RD.setProc,SMach.setP]
  show World.ownsRow _ D 76 5 d.vP (d.setProc i p' s).M.ps.length _;rw[hlen,hv];exact k0
end
end Go.Proofs.YtllgglolcgdehaaGreatDoor
