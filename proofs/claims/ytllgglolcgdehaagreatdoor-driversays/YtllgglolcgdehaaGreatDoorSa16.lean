/- The law DriverSays: what its three closures answer. -/
import Derived.Test.YtllgglolcgdehaaGreatDoorSAb
import Derived.Test.YtllgglolcgdehaaGreatDoorSa15
set_option linter.all false
set_option maxRecDepth 100000
set_option maxHeartbeats 16000000
namespace Go.Proofs.YtllgglolcgdehaaGreatDoor
open Go.RowKit Go.Gs Tryz
theorem cs2{w:World}{o p:Obj}:Bq w ((w.alloc o).alloc p):=i8.trans (i8.mono (by simp))
theorem az9{fs:List SFile}(h:fchk fs=0):∀f∈fs,f.b.length<=4000:=fun f hf=>(J2 (G2 h).2 f hf).2
theorem bQ7(l:SLine)(fs:List SFile)(af ao:Option Addr)(cf cap b3 b4:Nat)(w:World)(hf:Reads w (.slice af l.fr.length cf) l.fr.length (l.fr.map S))(hfs:j6 w (.slice ao fs.length cap) fs)(hff:∀f∈fs,M9 f)(h3:w.cell? ⟨b3,0,none⟩=some (.slice ao fs.length cap))(h4:w.cell? ⟨b4,0,none⟩=some (.slice af l.fr.length cf))(hsh:w.ShapedOpen prog):
 Calls prog 48 #[.pointer (some ⟨b3,0,none⟩),.pointer (some ⟨b4,0,none⟩)] w fun e w'=>e=.returned (.int .i64 (o6 fs l.fr).2)/\Bq w w':=by
 have HC:Hid _:=ao5 ao cap fs w hfs hff
 have HG:=qH (show fchk fs=0->∀V,Bq w V->Calls prog 49 #[.slice ao fs.length cap,.slice af l.fr.length cf] V fun e w'=>∃a n c,e=.returned (.tuple #[.slice a n c,.int .i64 (gather fs l.fr).2])/\Bq V w' from fun h V hb=>by
  refine (az3 ao af cap cf fs l.fr V (hfs.below hb) (az9 h) (hf.below hb) (S7 hsh hb)).mono ?_
  rintro e w'⟨a,c,e1,_,e3⟩
  exact⟨a,_,c,e1,e3⟩)
 have K:=qH (show ∀V,Bq w V->V.cell? ⟨b3,0,none⟩=some (.slice ao fs.length cap)/\V.cell? ⟨b4,0,none⟩=some (.slice af l.fr.length cf) from fun V hb=>⟨qC hb h3,qC hb h4⟩);have HT:=qH (show (o6 fs l.fr).2=if fchk fs=0 then (gather fs l.fr).2 else fchk fs by unfold o6;split <;> rfl);obtain⟨R,hR⟩:=qE ((o6 fs l.fr).2);rw[<- hR]at HT ⊢;generalize fchk fs=fc at *;generalize (gather fs l.fr).2=gc at *;generalize fs.length=NF at *;generalize l.fr.length=NL at *;clear hf hfs hff hsh hR;go_enter Tryz.func48,Tryz.ntmps48;go_wp2_with fail;refine qD HC.out ?_;rintro e w1⟨rfl,hb1⟩;have HB1:=qH hb1;obtain⟨k3,k4⟩:=K.out _ hb1;clear hb1 HC h3 h4 K;by_cases h0:fc=0
 . have HV:=qH (show R=gc by rw[HT.out,qF h0]);subst h0;have HG1:Hid _:=HG.out rfl w1 HB1.out;clear HG;go_wp2_with fail;refine qD HG1.out ?_;rintro e w2⟨a,n,c,rfl,hb2⟩;have HB2:=qT HB1 hb2;clear hb2 HG1;go_wp2_with fail;go_ret;exact⟨by rw[HV.out];rfl,HB2.out⟩
 . clear HG;go_wp2_with fail;go_ret;exact⟨by rw[HT.out,qA h0];rfl,HB1.out⟩
def limT(bad W room g:Int)(n:Nat):Int:=if bad≠0 then bad else if W<1\/5<W then 3 else if g≠0 then g else if room<1\/1000<room then 3 else if 40000<n then 2 else 0
theorem cb7(bad W room g:Int)(n b3 b4 b9 b10 b11 cq:Nat)(aq:Option Addr)(w:World)(h9:w.cell? ⟨b9,0,none⟩=some (.int .i64 W))(h10:w.cell? ⟨b10,0,none⟩=some (.int .i64 room))(h11:w.cell? ⟨b11,0,none⟩=some (.slice aq n cq))(hn:n<=9223372036854775807)(HG:Hid (∀V,Bq w V->Calls prog 48 #[.pointer (some ⟨b3,0,none⟩),.pointer (some ⟨b4,0,none⟩)] V fun e w'=>e=.returned (.int .i64 g)/\Bq V w')):
 Calls prog 45 #[.int .i64 bad,.func (.func 48) #[] #[.pointer (some ⟨b3,0,none⟩),.pointer (some ⟨b4,0,none⟩)],.pointer (some ⟨b9,0,none⟩),.pointer (some ⟨b10,0,none⟩),.pointer (some ⟨b11,0,none⟩)] w fun e w'=>e=.returned (.int .i64 (limT bad W room g n))/\Bq w w':=by
 have en:∀args w,(callFunc 48 args).run prog w=.ok (.enter 48 args) w:=enters_of Tryz.func48 (by kernel_rfl) rfl;have K:=qH (show ∀V,Bq w V->V.cell? ⟨b10,0,none⟩=some (.int .i64 room)/\V.cell? ⟨b11,0,none⟩=some (.slice aq n cq) from fun V hb=>⟨qC hb h10,qC hb h11⟩);obtain⟨R,hR⟩:=qE (limT bad W room g n);have HR:=qH hR;rw[<- hR];clear hR;by_cases hb0:bad=0
 .
  subst hb0;by_cases hW:W<1\/5<W
  .
   have HT:=qH (show limT 0 W room g n=3 by unfold limT;rw[qA (by simp),qF hW]);clear HG K;rcases hW with hW | hW
   . go_enter Tryz.func45,Tryz.ntmps45;go_wp2_with fail;go_ret;exact⟨by rw[HR.out,HT.out];rfl,qI _ _⟩
   . have hW1:¬W<1:=by omega
     go_enter Tryz.func45,Tryz.ntmps45;go_wp2_with fail;go_ret;exact⟨by rw[HR.out,HT.out];rfl,qI _ _⟩
  .
   have hW1:¬W<1:=by omega
   have hW2:¬5<W:=by omega
   have HT:=qH (show limT 0 W room g n=if g≠0 then g else if room<1\/1000<room then 3 else if 40000<n then 2 else 0 by unfold limT;rw[qA (by simp),qA hW]);have HG1:Hid _:=HG.out w (qI _ _);clear HG hW;go_enter Tryz.func45,Tryz.ntmps45;go_wp2_with fail;refine qD HG1.out ?_;rintro e w1⟨rfl,hb1⟩;have HB1:=qH hb1;obtain⟨k10,k11⟩:=K.out _ hb1;clear hb1 HG1 K h9 h10 h11;by_cases hg:g=0
   .
    subst hg;by_cases hr:room<1\/1000<room
    . have HV:=qH (show R=3 by rw[HR.out,HT.out,qA (by simp),qF hr]);rcases hr with hr | hr
      . go_wp2_with fail;go_ret;exact⟨by rw[HV.out];rfl,HB1.out⟩
      . have hr1:¬room<1:=by omega
        go_wp2_with fail;go_ret;exact⟨by rw[HV.out];rfl,HB1.out⟩
    . have HV:=qH (show R=if 40000<n then 2 else 0 by rw[HR.out,HT.out,qA (by simp),qA hr]);have hr1:¬room<1:=by omega
      have hr2:¬1000<room:=by omega
      clear hr;by_cases hp:40000<n
      . go_wp2_with fail;go_ret;exact⟨by rw[HV.out,qF hp];rfl,HB1.out⟩
      . go_wp2_with fail;go_ret;exact⟨by rw[HV.out,qA hp];rfl,HB1.out⟩
   . go_wp2_with fail;go_ret;exact⟨by rw[HR.out,HT.out,qF hg];rfl,HB1.out⟩
 . have HT:=qH (show limT bad W room g n=bad by unfold limT;rw[qF hb0]);clear HG K;go_enter Tryz.func45,Tryz.ntmps45;go_wp2_with fail;go_ret;exact⟨by rw[HR.out,HT.out];rfl,qI _ _⟩
theorem bQ8{W room:Int}{n:Nat}{fs:List SFile}{l:SLine}:q9 W room n fs l=if limT (lchk l) W room (o6 fs l.fr).2 n=0 then ((m9 fs l).1,0) else ([],limT (lchk l) W room (o6 fs l.fr).2 n):=by
 unfold q9 limT t8;by_cases h1:lchk l=0
 .
  by_cases h2:W<1\/5<W
  . simp[h1,h2]
  .
   by_cases h3:(o6 fs l.fr).2=0
   . by_cases h4:room<1\/1000<room
     . simp[h1,h2,h3,h4]
     . by_cases h5:40000<n
       . simp[h1,h2,h3,h4,h5]
       . simp[h1,h2,h3,h4,h5]
   . simp[h1,h2,h3]
 . simp[h1]
theorem cb8{W room:Int}{n:Nat}{fs:List SFile}{l:SLine}(h:limT (lchk l) W room (o6 fs l.fr).2 n=0):lchk l=0/\fchk fs=0/\(gather fs l.fr).2=0/\m9 fs l=((m9 fs l).1,0):=by
 unfold limT at h;split at h
 . rename_i h1;exact absurd h h1
 .
  rename_i h1;split at h
  . cases h
  . split at h
    . rename_i h3;exact absurd h h3
    . rename_i h3;have h4:=ak6 (by simpa using h3);refine⟨by simpa using h1,h4.1,h4.2,?_⟩;rw[aG6 h4.2]
theorem bQ9(l:SLine)(fs:List SFile)(W room:Int)(af ad ao aq:Option Addr)(cf cd cap cq n b9 b10 b11 b17:Nat)(w:World)(hf:Reads w (.slice af l.fr.length cf) l.fr.length (l.fr.map S))(hd:H9 w (.slice ad l.cs.length cd) l.cs)(Ad:M3 l)(hwf:WfL l)(hfs:j6 w (.slice ao fs.length cap) fs)(hff:∀f∈fs,M9 f)(h9:w.cell? ⟨b9,0,none⟩=some (.int .i64 W))(h10:w.cell? ⟨b10,0,none⟩=some (.int .i64 room))(h11:w.cell? ⟨b11,0,none⟩=some (.slice aq n cq))(hn:n<=9223372036854775807)(h17:w.cell? ⟨b17,0,none⟩=some (.func (.func 45) #[] #[.pointer (some ⟨b9,0,none⟩),.pointer (some ⟨b10,0,none⟩),.pointer (some ⟨b11,0,none⟩)]))(hsh:w.ShapedOpen prog)(hK:V2 w):
 Calls prog 46 #[.slice ao fs.length cap,.agg #[.slice af l.fr.length cf,.slice ad l.cs.length cd,.string ⟨l.tu.toArray⟩],.pointer (some ⟨b17,0,none⟩)] w fun e w'=>ak7 w (q9 W room n fs l) e w':=by
 have en:∀args w,(callFunc 45 args).run prog w=.ok (.enter 45 args) w:=enters_of Tryz.func45 (by kernel_rfl) rfl;have HCL:=qH (show ∀V,Bq w V->Calls prog 47 #[.agg #[.slice af l.fr.length cf,.slice ad l.cs.length cd,.string ⟨l.tu.toArray⟩]] V fun e w'=>e=.returned (.int .i64 (lchk l))/\Bq V w' from fun V hb=>at0 l af ad cf cd V (hf.below hb) (hd.below hb) Ad hwf)
 have HLM:=qH (show limT (lchk l) W room (o6 fs l.fr).2 n=0->∀V,Bq w V->Calls prog 50 #[.slice ao fs.length cap,.agg #[.slice af l.fr.length cf,.slice ad l.cs.length cd,.string ⟨l.tu.toArray⟩]] V fun e w'=>ak7 V ((m9 fs l).1,0) e w' from fun h V hb=>by
  obtain⟨k1,k2,k3,k4⟩:=cb8 h
  rw[<- k4]
  exact bg4 l ao af ad cap cf cd fs V (hfs.below hb) (az9 k2) (hf.below hb) (hd.below hb) k1 (S7 hsh hb) (hK.below hb))
 have HLI:=qH (show ∀V b3 b4,Bq w V->V.cell? ⟨b3,0,none⟩=some (.slice ao fs.length cap)->V.cell? ⟨b4,0,none⟩=some (.slice af l.fr.length cf)->Calls prog 45 #[.int .i64 (lchk l),.func (.func 48) #[] #[.pointer (some ⟨b3,0,none⟩),.pointer (some ⟨b4,0,none⟩)],.pointer (some ⟨b9,0,none⟩),.pointer (some ⟨b10,0,none⟩),.pointer (some ⟨b11,0,none⟩)] V fun e w'=>e=.returned (.int .i64 (limT (lchk l) W room (o6 fs l.fr).2 n))/\Bq V w' from fun V b3 b4 hb k3 k4=>by
  have c9:=qC hb h9
  have c10:=qC hb h10
  have c11:=qC hb h11
  refine cb7 (lchk l) W room (o6 fs l.fr).2 n b3 b4 b9 b10 b11 cq aq V c9 c10 c11 hn (show ∀V',_ from fun V' hb'=>?_)
  have hB:=hb.trans (hb'.mono hb.size)
  exact bQ7 l fs af ao cf cap b3 b4 V' (hf.below hB) (hfs.below hB) hff (qC hb' k3) (qC hb' k4) (S7 hsh hB))
 have HDT:=qH (show q9 W room n fs l=if limT (lchk l) W room (o6 fs l.fr).2 n=0 then ((m9 fs l).1,0) else ([],limT (lchk l) W room (o6 fs l.fr).2 n) from bQ8);have Qn:=bLt w _ h17;obtain⟨B3,hB3⟩:=qE w.heap.size;obtain⟨W0,hW0⟩:=qE ((w.alloc (.cells #[.slice ao fs.length cap] 25)).alloc (.cells #[.slice af l.fr.length cf,.slice ad l.cs.length cd,.string ⟨l.tu.toArray⟩] 56));have hB0:Bq w W0:=by rw[hW0];exact cs2
 have q1:W0.heap[B3]? = some (.cells #[.slice ao fs.length cap] 25 (0,0)):=by rw[hW0,hB3];exact zm _ _ _
 have q2:W0.heap[B3+1]? = some (.cells #[.slice af l.fr.length cf,.slice ad l.cs.length cd,.string ⟨l.tu.toArray⟩] 56 (0,0)):=by rw[hW0,hB3];exact zn _ _ _
 have K:=qH (show ∀V,Bq W0 V->Bq w V/\V.cell? ⟨B3,0,none⟩=some (.slice ao fs.length cap)/\V.cell? ⟨B3+1,0,none⟩=some (.slice af l.fr.length cf)/\V.cell? ⟨B3+1,1,none⟩=some (.slice ad l.cs.length cd)/\V.cell? ⟨B3+1,2,none⟩=some (.string ⟨l.tu.toArray⟩)/\V.cell? ⟨b17,0,none⟩=some (.func (.func 45) #[] #[.pointer (some ⟨b9,0,none⟩),.pointer (some ⟨b10,0,none⟩),.pointer (some ⟨b11,0,none⟩)]) from fun V hV=>by
  have p1:=qK hV q1
  have p2:=qK hV q2
  have hB:=hB0.trans (hV.mono hB0.size)
  exact⟨hB,qR p1 rfl,qR p2 rfl,qR p2 rfl,qR p2 rfl,(hB.cell Qn).trans h17⟩)
 obtain⟨DT,hDT⟩:=qE (q9 W room n fs l);rw[<- hDT]at HDT ⊢;generalize limT (lchk l) W room (o6 fs l.fr).2 n=lim at *;generalize (m9 fs l).1=out at *;generalize lchk l=lc at *;generalize (⟨l.tu.toArray⟩:ByteArray)=tx at *;generalize fs.length=NF at *;generalize l.fr.length=NL at *;generalize l.cs.length=ND at *;clear hf hd Ad hwf hfs hff h9 h10 h11 hn h17 hsh hK Qn hB0 q1 q2 hDT;go_enter Tryz.func46,Tryz.ntmps46;go_upto_region 1 with fail;rw[<- hW0,<- hB3];clear hW0 hB3;obtain⟨g0,x3,x40,x41,x42,x17⟩:=K.out _ (qI _ _);have HCL0:=qH (show ∀V,Bq W0 V->Calls prog 47 #[.agg #[.slice af NL cf,.slice ad ND cd,.string tx]] V fun e w'=>e=.returned (.int .i64 lc)/\Bq W0 w' from fun V hV=>(HCL.out V (K.out V hV).1).mono (fun e w' h=>⟨h.1,hV.trans (h.2.mono hV.size)⟩));clear HCL g0
 go_region_with (first
  | (go_at_call 47;refine qD (HCL0.out _ (by first|exact (qI _ _).drew | exact qI _ _)) ?_;rintro e w1⟨rfl,hb1⟩;obtain⟨g1,y3,y40,y41,y42,y17⟩:=K.out _ hb1;have HB1:Hid _:=hb1;have Xn:Hid _:=HLI.out w1 B3 (B3+1) g1 y3 y40;clear g1 hb1 x3 x40 x41 x42 x17)
  | (go_at_fn 45;refine qD Xn.out ?_;rintro e w2⟨rfl,hb2⟩))
 all_goals
  have Ek:Bq W0 w2:=HB1.out.trans (hb2.mono HB1.out.size);obtain⟨g2,z3,z40,z41,z42,z17⟩:=K.out _ Ek;have HB2:=qH g2;clear g2 Ek hb2 Xn HLI HB1 K y3 y40 y41 y42 y17 z17;by_cases hl:lim=0
  . have HV:=qH (show DT=(out,0) by rw[HDT.out,qF hl]);subst hl;have HL1:Hid _:=HLM.out rfl _ HB2.out;clear HLM;go_wp2_with fail;refine qD HL1.out ?_;rintro e w3⟨ar,cr,rfl,hr3,hb3⟩;simp only at hr3 ⊢;have HE:Hid _:=(show _/\_ from ⟨hr3,HB2.out.trans (hb3.mono HB2.out.size)⟩);clear hr3 hb3 HL1;generalize hON:out.length=ON at *;go_wp2_with fail;go_ret2;subst hON;rw[HV.out];exact⟨ar,cr,rfl,HE.out.1,HE.out.2⟩
  . clear HLM;go_wp2_with fail;go_ret2;rw[HDT.out,qA hl];exact ae4 rfl rfl HB2.out
end Go.Proofs.YtllgglolcgdehaaGreatDoor
