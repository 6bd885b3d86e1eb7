/- Stepped, behind the bite. -/
import Derived.Test.YtmejdflmcikkdaaGreatDoorVAb
import Derived.Test.YtmejdflmcikkdaaGreatDoorVa32
set_option linter.all false
set_option maxRecDepth 100000
set_option maxHeartbeats 64000000
namespace Go.Proofs.YtmejdflmcikkdaaGreatDoor
open Go.RowKit Go.Gs Go.Maps Tryz
variable {O O1:qW}{d:RD}{n:SNode}{p:SProc}{s:PSlot}{x:SPipe}{RES:SMach × Int}
theorem bh7{w wc:World}{D r i:Nat}{an af ao ag ai:Option Addr}{cn cf co cg ci cP cX gP gX bp bn bm ba b4 mp gI q P IL g1 o1 m tc:Nat}(HD:Hid (RMem w D r O NoG d/\d.vM=.bool true/\Shape d.M/\d.M.ns[i]?=some n/\d.M.ps[i]?=some p/\(∀n∈d.M.ns,G8 n)/\SmallM d.M))(HV:Hid (d.vP=.slice (some ⟨gP,0,none⟩) d.M.ps.length cP/\d.vX=.slice (some ⟨gX,0,none⟩) d.M.pipes.length cX/\d.vN=.slice an d.M.ns.length cn/\d.vF=.slice af d.M.fs.length cf/\d.P[i]?=some s/\s.ov=.slice ao p.out.length co/\s.gv=.slice ag p.got.length cg))(HE:Hid (∀W,Below D w W->q8 W/\W.ShapedOpen prog))(HFU:Hid (∀(dk:RD)(Ok:qW)(pk:SProc)(W:World),StepB w W D r O Ok dk n ai ci i gP bp bn bm ba b4 mp gI->dk.M.ns=d.M.ns->dk.M.fs=d.M.fs->dk.M.ps.length=d.M.ps.length->dk.vP=d.vP->dk.vM=d.vM->dk.M.ps[i]?=some pk->pk.out.length=p.out.length->pk.got.length=p.got.length->pk.got.flatten.length<=60300000->(∀b∈pk.out,b.length<=1000000000)->Calls prog 50 #[.pointer (some ⟨bp,0,none⟩),.pointer (some ⟨bn,0,none⟩),.pointer (some ⟨bm,0,none⟩),.pointer (some ⟨ba,0,none⟩)] W fun e w'=>e=.returned (.tuple #[])/\∃O',RefA NoG w' D r O' (dk.M.setP i (D2 n dk.M.fs pk))/\KeptO O O' w w'))(HNO:Hid (∀b∈p.out,b=[]))(HIL:Hid (IL=n.ins.length/\p.got.length=IL))(HFP:Hid (ProcF n p))(HP:Hid (p.pos=(P:Int)/\pchk x=0))
 (HSw:Hid (StepB w wc D r O O1 d n ai ci i gP bp bn bm ba b4 mp gI)) (HX:Hid (d.M.pipes[q]?=some x)) (HR8:Hid (RES=Y4 d.M i n q p)) (hi5:IL<=5) (hPI:P<IL) (HK:Hid (x.b≠[]/\m=min 8 x.b.length/\d.X[q]?=some (some ⟨g1,o1,none⟩,tc))) {vz0 vz1 vz3 vz4 vz5 vz6 vz11 vz12 vz13 vz14 vz15 vz16 vz17 vz18 vz21 vz22 vz23 vz24 vz25 vz26 vz27 vz28 vz29 vz30 vz31 vz32 vz33 vz34 vz35 vz36 vz37 vz38 vz39 vz40 vz41 vz42 vz43 vz44 vz45 vz46 vz47 vz48 vz49 vz50 vz51 vz52 vz53 vz54 vz55 vz56 vz57 vz58 vz59 vz60 vz61 vz62 vz63 vz64 vz65 vz66 vz67 vz68 vz69 vz70 vz71 vz72 vz73 vz74 vz75 vz76 vz77 vz78 vz79 vz80 vz81 vz82 vz83 vz84 vz85 vz86 vz87 vz88 vz89 vz90 vz91 vz92 vz93 vz94 vz95 vz96 vz97 vz98 vz99 vz100 vz101 vz102 vz103 vz104 vz105 vz106 vz107 vz108 vz109 vz110 vz111 vz112 vz113 vz114 vz115 vz116 vz117 vz118 vz119 vz120 vz121 vz122 vz123 vz124 vz125 vz126 vz127 vz128 vz129 vz130 vz131 vz132 vz133 vz134 vz135 vz136 vz137 vz138 vz139 vz140 vz141 vz142 vz143 vz144 vz145 vz146 vz147 vz148 vz149 vz150 vz151 vz152 vz153 vz154 vz155 vz156 vz157 vz158 vz159 vz160 vz161 vz162 vz163 vz164 vz165 vz166 vz167 vz168 vz169 vz170 vz171 vz172 vz173 vz174 vz175 vz176 vz177 vz178 vz179 vz180 vz181 vz182 vz183 vz184 vz185 vz186 vz187 vz188 vz189 vz190 vz191 vz192 vz193 vz194 vz195 vz196 vz197 vz198 vz199 vz200 vz201 vz202 vz203 vz204 vz205 vz206 vz207 vz208 vz209 vz210 vz211 vz212 vz213 vz214 vz215 vz216 vz217 vz218 vz219 vz220 vz221 vz222 vz223 vz224 vz225 vz226 vz227 vz228 vz229 vz230 vz231 vz232 vz233 vz234 vz235 vz236 vz237 vz238 vz239 vz240 vz241 vz242 vz243 vz244 vz245 vz246 vz247 vz248 vz249 vz250 vz251 vz252 vz253 vz254 vz255 vz256 vz257 vz258 vz259 vz260 vz261 vz262 vz263 vz264 vz265 vz266 vz267 vz268 vz269 vz270 vz271 vz272 vz273 vz274 vz275 vz276 vz277 vz278 vz279 vz280 vz281 vz282 vz283 vz284 vz285 vz286 vz287 vz288 vz289 vz290 vz291 vz292 vz293 vz294 vz295 vz296 vz297 vz298 vz299 vz300 vz301 vz302 vz303 vz304 vz305 vz306 vz307 vz308 vz309 vz310 vz311 vz312 vz313 vz314 vz315 vz316 vz317 vz318 vz319 vz320 vz321 vz322 vz323 vz324 vz325 vz326 vz327 vz328 vz329 vz330 vz331 vz332 vz333 vz334 vz335 vz336 vz337 vz338 vz339 vz340 vz341 vz342 vz343 vz344 vz345 vz346 vz347 vz348 vz349 vz350 vz351:Value}:
 Code.wp prog ((Tryz.f15.body.bind (ag8 43)).getD .skip) (bodyPost prog Tryz.f15 fun e w'=>e=.returned (.int .i64 RES.2)/\∃O',RefA NoG w' D r O' RES.1/\KeptO O O' w w') ⟨#[vz0,vz1,.pointer (some ⟨bm,0,none⟩),vz3,vz4,vz5,vz6,.pointer (some ⟨bp,0,none⟩),.pointer (some ⟨bn,0,none⟩),.pointer (some ⟨ba,0,none⟩),.func (.func 50) #[] #[.pointer (some ⟨bp,0,none⟩),.pointer (some ⟨bn,0,none⟩),.pointer (some ⟨bm,0,none⟩),.pointer (some ⟨ba,0,none⟩)],vz11,vz12,vz13,vz14,vz15,vz16,vz17,vz18,.pointer (some ⟨gX,q*4,none⟩),.slice (some ⟨g1,o1,none⟩) m tc,vz21,vz22,vz23,vz24,vz25,vz26,vz27,vz28,vz29,vz30,vz31,vz32,vz33,vz34,vz35,vz36,vz37,vz38,vz39,vz40,vz41,vz42,vz43,vz44,vz45,vz46,vz47,vz48,vz49,vz50,vz51,vz52,vz53,vz54,vz55,vz56,vz57,vz58,vz59,vz60,vz61,vz62,vz63,vz64,vz65,vz66,vz67,vz68,vz69,vz70,vz71,vz72,vz73,vz74,vz75,vz76,vz77,vz78,vz79,vz80,vz81,vz82,vz83,vz84,vz85,vz86,vz87,vz88,vz89,vz90,vz91,vz92,vz93,vz94,vz95,vz96,vz97,vz98,vz99,vz100,vz101,vz102,vz103,vz104,vz105,vz106,vz107,vz108,vz109,vz110,vz111,vz112,vz113,vz114,vz115,vz116,vz117,vz118,vz119,vz120,vz121,vz122,vz123,vz124,vz125,vz126,vz127,vz128,vz129,vz130,vz131,vz132,vz133,vz134,vz135,vz136,vz137,vz138,vz139,vz140,vz141,vz142,vz143,vz144,vz145,vz146,vz147,vz148,vz149,vz150,vz151,vz152,vz153,vz154,vz155,vz156,vz157,vz158,vz159,vz160,vz161,vz162,vz163,vz164,vz165,vz166,vz167,vz168,vz169,vz170,vz171,vz172,vz173,vz174,vz175,vz176,vz177,vz178,vz179,vz180,vz181,vz182,vz183,vz184,vz185,vz186,vz187,vz188,vz189,vz190,vz191,vz192,vz193,vz194,vz195,vz196,vz197,vz198,vz199,vz200,vz201,vz202,vz203,vz204,vz205,vz206,vz207,vz208,vz209,vz210,vz211,vz212,vz213,vz214,vz215,vz216,vz217,vz218,vz219,vz220,vz221,vz222,vz223,vz224,vz225,vz226,vz227,vz228,vz229,vz230,vz231,vz232,vz233,vz234,vz235,vz236,vz237,vz238,vz239,vz240,vz241,vz242,vz243,vz244,vz245,vz246,vz247,vz248,vz249,vz250,vz251,vz252,vz253,vz254,vz255,vz256,vz257,vz258,vz259,vz260,vz261,vz262,vz263,vz264,vz265,vz266,vz267,vz268,vz269,vz270,vz271,vz272,vz273,vz274,vz275,vz276,vz277,vz278,vz279,vz280,vz281,vz282,vz283,vz284,vz285,vz286,vz287,vz288,vz289,vz290,vz291,vz292,vz293,vz294,vz295,vz296,vz297,vz298,vz299,vz300,vz301,vz302,vz303,vz304,vz305,vz306,vz307,vz308,vz309,vz310,vz311,vz312,vz313,vz314,vz315,vz316,vz317,vz318,vz319,vz320,vz321,vz322,vz323,vz324,vz325,vz326,vz327,vz328,vz329,vz330,vz331,vz332,vz333,vz334,vz335,vz336,vz337,vz338,vz339,vz340,vz341,vz342,vz343,vz344,vz345,vz346,vz347,vz348,vz349,vz350,vz351],[]⟩ wc:=by
 conv=>arg 2;whnf
 conv=>arg 4;dsimp only
 have en2:∀args w,(callFunc 50 args).run prog w=.ok (.enter 50 args) w:=enters_of func50 qQ rfl;have en1:∀args w,(callFunc 49 args).run prog w=.ok (.enter 49 args) w:=enters_of func49 qQ rfl;obtain⟨xp,xm,xa,_⟩:=HSw.o.cells;obtain⟨p0,p1,p2,p3,p4,hfP,hOP,hgP⟩:=HSw.o.mem.procIn HD.o.2.2.2.2.1 HV.o.1 HV.o.2.2.2.2.1;obtain⟨t,ht,hRt,x0,x1,x2,x3,hfX,hOX,hgX⟩:=HSw.o.mem.atX HV.o.2.1 HX.o;obtain⟨n0,n1,n2,n3,n4,n5,n6,n7⟩:=D8 HSw.o.full.n.1;rw[HP.o.1]at p1;rw[<- HIL.o.1]at n7;unfold sl at x0;have hxb:=HK.o.1;have et:t=(some ⟨g1,o1,none⟩,tc):=qd (ht.symm.trans HK.o.2.2);subst et;have hxl:0<x.b.length:=xj.2 hxb;have hpp:=Q7 HP.o.2;have hx4:x.b.length<=40000:=by have h2:=ae1 hpp.2.1;have:=hpp.2.2.1;omega
 have hm:=HK.o.2.1;have hm1:m<=x.b.length:=qO;have hm8:m<=8:=qO
 have HM:Hid (m=min 8 x.b.length/\x.b.take 8=x.b.take m/\x.b.drop 8=x.b.drop m):=⟨hm,by
  by_cases e:8<=x.b.length
  . rw[show m=8 by omega]
  . rw[qP qO,qP qO],by
  by_cases e:8<=x.b.length
  . rw[show m=8 by omega]
  . rw[qi qO,qi qO]⟩
 have HR9:=qH (show RES=(F3 (d.M.setX q ⟨x.b.drop m,x.room,x.closed,x.shut⟩) i n q (p.setGot (p.at++x.b.take m)),0) by
  rw[HR8.o]
  unfold Y4
  rw[aa9 HX.o,<- HM.o.2.1,<- HM.o.2.2]
  have e:x.b.isEmpty=false:=by
   cases hh:x.b with
   | nil=>exact absurd hh hxb
   | cons y l=>rfl
  rw[e]
  simp)
 simp only at x0;have hrx:=hRt.1;unfold sl at hrx;simp only at hrx;obtain⟨_,Oi,Vm⟩:=t8 hrx;obtain⟨Is,Qj,Md⟩:=ap8 hrx rfl hm1 qO
 have HTK:=qH (show g1≠gX/\g1<wc.heap.size/\∀W,W.heap[g1]?=wc.heap[g1]? -> Reads W (.slice (some ⟨g1,o1,none⟩) m tc) m ((x.b.take m).map U) from by
  have ho1:O1 g1=some (.pipe q):=hRt.2.2 hxb _ rfl
  refine⟨(fun e=>by rw[e,hOX]at ho1;cases ho1),(HSw.o.mem.lo g1 _ ho1).2,fun W hW=>ap7 Qj (fun a ha _=>by cases ha;exact hW)⟩)
 have f0:=hfX (q*4);have hcp:∀(a8:Option Addr)(c8:Nat),Reads wc (.slice a8 (x.b.length-m) c8) (x.b.length-m) ((x.b.drop m).map U)->∃a' c' w1,(Builtin.append_ #[28,28] 28 #[.slice (some ⟨wc.heap.size,0,none⟩) 0 0,.slice a8 (x.b.length-m) c8]).run prog (wc.alloc (.cells #[] 5))=.ok (.slice a' (x.b.length-m) c') w1/\w1.cell? ⟨gX,q*4,none⟩=some (.slice (some ⟨g1,o1,none⟩) x.b.length tc)/\w1.frozen? ⟨gX,q*4,none⟩=false/\Hid (w1.ownsRow wc.heap.size 5 1 (.slice a' (x.b.length-m) c') (x.b.drop m).length ((x.b.drop m).map U)/\Bq wc w1):=fun a8 c8 h8=>by have hl:(x.b.drop m).length=x.b.length-m:=qy;rw[<- hl]at h8;obtain⟨v',w1,Ae,ho,hb⟩:=Y8 h8 qO 28;obtain⟨a',c',rfl,_,_⟩:=I0 ho;rw[hl]at Ae;refine⟨a',c',w1,Ae,(hb.cell hgX).trans x0,K6 hb hgX f0,?_⟩;rw[hl]at ho ⊢;exact⟨ho,hb⟩
 obtain⟨XL,hXL⟩:=qE x.b.length;have HXL:=qH hXL;rw[<- hXL]at x0 hxl hx4 hm1 Oi Is hcp hm;have hgl:Hid (O1 gX=some .pipes/\gX<wc.heap.size/\d.X[q]?=some (some ⟨g1,o1,none⟩,tc)/\O1 gP=some .procs):=⟨hOX,hgX,ht,hOP⟩;have Ku:tc=m->Reads wc (.slice (some ⟨g1,o1,none⟩) (XL-m) 0) (XL-m) ((x.b.drop m).map U):=fun e=>by
  have e2:XL=m:=by rw[hXL];exact Md e
  have e3:x.b.drop m=[]:=qi qO;rw[e2,xt,e3];exact⟨rfl,_,0,rfl,qA _,by simp[maxLen],fun h=>absurd rfl h⟩
 clear HR8 hxb hpp hRt Qj hfX ht hOX hOP hrx hXL;clear p0 p1 p2 p3 p4 hfP x1 x2 x3 n0 n1 n2 n3 n4 n5 n6 n7 xp xm xa hm Md hm8;go_upto_region 43 with fail;go_cut [20] (fun y wx=>y=.slice (some ⟨g1,o1,none⟩) m tc/\Hid (∃a' c' w1,wx=w1.setCell ⟨gX,q*4,none⟩ (.slice a' (XL-m) c')/\w1.ownsRow wc.heap.size 5 1 (.slice a' (XL-m) c') (x.b.drop m).length ((x.b.drop m).map U)/\Bq wc w1))
 case first=>
  as_aux_lemma=>
   by_cases htm:tc=m
   . obtain⟨a',c',w1,Ae,y0,yf,hk⟩:=hcp _ _ (Ku htm)
     clear hcp Is Ku
     go_wp2_with (at_builtin;refine j4 _ rfl (.tmp 194) (.tmp 201) 28 rfl _ _ rfl rfl Ae ?_)
     go_meet
     exact⟨by first|rfl | rw[htm],a',c',w1,rfl,hk.out.1,hk.out.2⟩
   . obtain⟨a',c',w1,Ae,y0,yf,hk⟩:=hcp _ _ (Is htm)
     clear hcp Is Ku
     go_wp2_with (at_builtin;refine j4 _ rfl (.tmp 194) (.tmp 201) 28 rfl _ _ rfl rfl Ae ?_)
     go_meet
     exact⟨by first|rfl | rw[htm],a',c',w1,rfl,hk.out.1,hk.out.2⟩
 case rest=>
  obtain⟨rfl,HK⟩:=hcut;obtain⟨a',c',w1,hwx,ho,hb1⟩:=HK.o;obtain⟨O2,s2,hm2,hk2⟩:=HSw.o.mem.addPipe (x:=x) HX.o hgl.out.2.2.1 HV.o.2.1 hgl.out.1 ho hb1;rw[<- hwx]at hm2 hk2;have HS2:Hid (StepB w wc D r O O2 (d.setPipe q ⟨x.b.drop m,x.room,x.closed,x.shut⟩ s2) n ai ci i gP bp bn bm ba b4 mp gI):=HSw.o.next hm2 rfl hk2;have HTK2:=qH (show Reads wc (.slice (some ⟨g1,o1,none⟩) m tc) m ((x.b.take m).map U) from HTK.o.2.2 _ (by rw[hwx,Below.heap_setCell _ _ _ _ HTK.o.1];exact hb1.block _ HTK.o.2.1));clear HK hwx ho hb1 hm2 hk2 HTK HSw hcp Is Ku;have hPl:P<p.got.length:=by rw[HIL.o.2];omega
  obtain⟨b0,hb0⟩:∃b,p.got[P]?=some b:=⟨_,gEl hPl⟩;have hat:p.at=b0:=by unfold SProc.at;rw[HP.o.1,qh,hb0];rfl
  have HBL:=qH (show (x.b.take m).length=m by rw[qX,<- HXL.o];omega);obtain⟨gG,cG,a0,Qk,hG1,hG2,hgG,hOG,ha0,hS0,y0,hfG⟩:=HS2.o.mem.gotAt (i:=i) (p:=p) (s:=s) HD.o.2.2.2.2.1 HV.o.2.2.2.2.1 hb0;obtain⟨xp,xm,xa,_⟩:=HS2.o.cells;obtain⟨p0,p1,_,_,_,_,Ru,hgP2⟩:=HS2.o.mem.procIn (p:=p) (s:=s) HD.o.2.2.2.2.1 HV.o.1 HV.o.2.2.2.2.1;rw[Qk,HIL.o.2]at p0;rw[HP.o.1]at p1
  have HAD:=qH (show ∀W,Bq wc W->Calls prog 49 #[.pointer (some ⟨gG,P,none⟩),.slice (some ⟨g1,o1,none⟩) m tc] W fun e w'=>e=.returned (.tuple #[])/\w'.cell? ⟨bp,0,none⟩=some (.pointer (some ⟨gP,i*5,none⟩))/\w'.cell? ⟨gP,i*5,none⟩=some (.slice (some ⟨gG,0,none⟩) IL cG)/\w'.cell? ⟨gP,i*5+1,none⟩=some (.int .i64 (P:Int))/\w'.cell? ⟨ba,0,none⟩=some (.func (.func 49) #[] #[])/\Hid (∃O3 s3,StepB w w' D r O O3 ((d.setPipe q ⟨x.b.drop m,x.room,x.closed,x.shut⟩ s2).setProc i (SProc.gotSet p P (b0++x.b.take m)) (s.gotSet P s3)) n ai ci i gP bp bn bm ba b4 mp gI) from fun W hW=>by
   have h9:=HS2.o.below hW
   have hR:=HTK2.o.below hW
   have hA:=aH9 gG P a0.1 (some ⟨g1,o1,none⟩) a0.2 tc b0 (x.b.take m) W ((hW.cell hgG).trans y0) (K6 hW hgG (hfG P)) (hS0.reads.below hW) (by rw[HBL.o];exact hR) (by
    have h5:=HD.o.2.2.2.2.2.2.got p (mGt HD.o.2.2.2.2.1)
    have h6:=(List.sublist_flatten_of_mem (mGt hb0)).length_le
    rw[HBL.o]
    omega)
   rw[HBL.o]at hA
   refine qD hA ?_
   rintro e w'⟨rfl,w1,v,ho,hb,rfl⟩
   obtain⟨O3,s3,h1,h2⟩:=h9.mem.addGot (i:=i) (p:=p) (s:=s) HD.o.2.2.2.2.1 HV.o.2.2.2.2.1 hb0 Qk hOG ho hb
   have h10:=h9.next h1 rfl h2
   obtain⟨z1,_,z3,_⟩:=h10.cells
   obtain⟨z4,z5,_⟩:=h10.mem.procIn (gP:=gP) (cP:=cP) (p:=SProc.gotSet p P (b0++x.b.take m)) (s:=s.gotSet P s3) (j8 HD.o.2.2.2.2.1) (by show d.vP=_;rw[HV.o.1];simp[RD.setProc,RD.setPipe,SMach.setP,SMach.setX]) (j8 HV.o.2.2.2.2.1)
   have z6:(s.gotSet P s3).gv=.slice (some ⟨gG,0,none⟩) IL cG:=by rw[<- HIL.o.2];exact Qk
   rw[z6]at z4
   have z7:(SProc.gotSet p P (b0++x.b.take m)).pos=(P:Int):=HP.o.1
   rw[z7]at z5
   exact⟨rfl,z1,z4,z5,z3,O3,s3,h10⟩)
  have HGV:=qH (show s.gv=.slice (some ⟨gG,0,none⟩) IL cG by rw[<- HIL.o.2];exact Qk);clear Qk hG1 hG2 hOG ha0 hS0 Ru HTK2;go_upto_region 44 with fail;go_cut [] (fun wx=>Hid (∃O3 s3,StepB w wx D r O O3 ((d.setPipe q ⟨x.b.drop m,x.room,x.closed,x.shut⟩ s2).setProc i (SProc.gotSet p P (b0++x.b.take m)) (s.gotSet P s3)) n ai ci i gP bp bn bm ba b4 mp gI))
  case first=>
   as_aux_lemma=>
    go_region_held3 (fun W=>W.cell? ⟨bp,0,none⟩=some (.pointer (some ⟨gP,i*5,none⟩))/\W.cell? ⟨gP,i*5,none⟩=some (.slice (some ⟨gG,0,none⟩) IL cG)/\W.cell? ⟨gP,i*5+1,none⟩=some (.int .i64 (P:Int))/\W.cell? ⟨ba,0,none⟩=some (.func (.func 49) #[] #[])) (go_keep) (first|(go_at_fn 49;refine qD (HAD.o _ ?_) ?_;(repeat (first|exact Below.refl _ _ | refine Below.drew ?_));rintro e w9⟨rfl,v0,v1,v2,v3,hb9⟩))
    all_goals
     go_wp2_with fail
     go_meet
     exact hb9
  case rest=>
   obtain⟨O3,s3,h3⟩:=hcut.out;obtain⟨B,hB⟩:=qE (b0++x.b.take m);have hBl:B.length=b0.length+m:=by rw[hB,qI,HBL.o]
   rw[<- hB]at h3;have hfl:=HD.o.2.2.2.2.2.2.got p (mGt HD.o.2.2.2.2.1);have hb0l:=A3 (mGt hb0);have hm8:m<=8:=by have:=HM.o.1;omega
   have hm1':0<m:=by have:=HM.o.1;have:=HXL.o;omega
   obtain⟨d3,M3,p3,s4,x3,hCA,h3,hRC,hpx3,hsk,hov4⟩:∃d3 M3 p3 s4 x3,CameA d d3 M3 i q P IL p p3 s3 s4 x3 B gG cG gP cP gX cX/\StepB w wc D r O O3 d3 n ai ci i gP bp bn bm ba b4 mp gI/\RES=(F3 M3 i n q p3,0)/\M3.pipe q=x3/\d3.M.sunk=d.M.sunk/\s4.ov=s.ov:=
    ⟨_,_,_,_,_,CameA.of (x:=x) HD.o.2.2.2.2.1 HV.o.2.2.2.2.1 HX.o HD.o.1.xlen HV.o.1 HV.o.2.1 HD.o.2.1 HGV.o (HD.o.1.slen i p s HD.o.2.2.2.2.1 HV.o.2.2.2.2.1).1 hb0 HP.o.1 HIL.o.2 qO,h3,by rw[HR9.o,hat,<- hB];unfold SProc.setGot SProc.gotSet;rw[HP.o.1,qh],aa9 (j8 HX.o),rfl,rfl⟩
   have HC:Hid (CameA d d3 M3 i q P IL p p3 s3 s4 x3 B gG cG gP cP gX cX/\M3.pipe q=x3/\d3.M.sunk=d.M.sunk/\s4.ov=s.ov):=⟨hCA,hpx3,hsk,hov4⟩;have HS3:=qH h3;have HRC:=qH hRC;obtain⟨q0,q1,q2,y0,yf,hOG,hSB,hgG3⟩:=hCA.cells h3;obtain⟨xp,xm,xa,_⟩:=h3.cells;obtain⟨a3,c3⟩:=s3;obtain⟨g3,o3,e3⟩:∃g3 o3,a3=some ⟨g3,o3,none⟩:=by
    rcases id hSB with⟨_,e⟩|⟨g,o,_,e,_⟩
    . rw[e]at hBl;simp at hBl;omega
    . exact⟨g,o,e⟩
   subst e3;obtain⟨BL,hBL⟩:=qE B.length;have HBB:Hid (BL=B.length/\BL<=60300000/\0<BL):=⟨hBL,qO,qO⟩;have hBL2:BL<=60300000:=qO;have HRB:=qH (show Reads wc (.slice (some ⟨g3,o3,none⟩) BL c3) BL (B.map U) by rw[hBL];exact hSB.reads);obtain⟨_,Jb,Jc⟩:=t8 HRB.o;simp only at y0;rw[<- hBL]at y0;clear hcut HS2 HAD h3 hCA hRC hpx3 hsk hov4 hb0 hat hB hBl hfl hb0l hm8 hm1' hPl HBL HR9 HX HM HXL hgl HGV hSB hBL hOG hgG3 q2 yf xm xa hfG p0 p1;clear hm1 hxl hx4 Oi Vm;go_upto_region 45 with fail;go_quiet (fail);go_upto_block 5 with fail
   clear q0 q1 y0 xp;go_cut [22,23] (fun f l wx=>∃fd ls:Nat,f=.int .i64 fd/\l=.int .i64 ls/\ls<=BL/\Hid (Bq wc wx)/\Hid (fd=B.count 10/\ls=j3 B))
   case first=>
    go_wp2_with fail;go_loopw [22,23,229] (fun f l z wr=>∃k fd ls:Nat,k<=BL/\z=.int .i64 k/\f=.int .i64 fd/\l=.int .i64 ls/\fd<=k/\ls<=k/\Hid (Bq wc wr)/\Hid (fd=(B.take k).count 10/\ls=j3 (B.take k))) (fun _ _ z _=>BL-(intOf z).toNat)
    case atStart=>exact⟨0,0,0,qM _,rfl,rfl,rfl,qA _,qA _,(by first|exact Below.refl _ _ | exact (Below.refl _ _).drew | exact P4),⟨by simp,by rw[List.take_zero];rfl⟩⟩
    case round=>
     obtain⟨k,fd,ls,hk,rfl,rfl,rfl,hfd,hls,Aa,hct⟩:=hrel;by_cases hlt:k<BL
     .
      obtain⟨c,hc⟩:∃c,B[k]?=some c:=⟨_,gEl (by have:=HBB.o.1;omega)⟩;obtain⟨b',off',e',Ac⟩:=aa5 (HRB.o.below Aa.o) hc;injection e' with e';injection e' with e1 e2;subst e1 e2;by_cases h10:c=10
      . subst h10;have HCT:Hid (fd+1=(B.take (k+1)).count 10/\k+1=j3 (B.take (k+1))):=⟨by rw[aG0 hc,qF rfl,hct.out.1],by rw[aG1 hc,qF rfl]⟩;clear hct hc;go_wp2_with fail;go_roundw
        case rel=>exact⟨k+1,fd+1,k+1,qO,by go_num,by go_num,by go_num,qO,qA _,Aa,HCT⟩
        case measure=>simp[intOf];omega
      . have h10':¬(c.toNat:Int)=10:=fun e=>h10 (UInt8.toNat_inj.1 (by simpa using (by omega:c.toNat=10)));have HCT:Hid (fd=(B.take (k+1)).count 10/\ls=j3 (B.take (k+1))):=⟨by rw[aG0 hc,qB h10];exact hct.out.1,by rw[aG1 hc,qB h10];exact hct.out.2⟩;generalize (c.toNat:Int)=cz at *;clear hct hc h10;go_wp2_with fail;go_roundw
        case rel=>exact⟨k+1,fd,ls,qO,by go_num,by go_num,by go_num,qO,qO,Aa,HCT⟩
        case measure=>simp[intOf];omega
     . obtain rfl:BL=k:=qO;have HCT:Hid (fd=B.count 10/\ls=j3 B):=⟨by rw[hct.out.1,qP (by have:=HBB.o.1;omega)],by rw[hct.out.2,qP (by have:=HBB.o.1;omega)]⟩;clear hct hlt hk;go_wp2_with fail;go_meet;exact⟨fd,ls,rfl,rfl,hls,Aa,HCT⟩
   case rest=>rename_i Kz hKz;obtain⟨fd,ls,rfl,rfl,hlb,Aa,HCT⟩:=hcut;refine hKz _ _ ?_;exact aQ6 (O1:=O1) HD HV HE HFU HNO HIL HFP (show Hid _ from HS3.o.below Aa.o) HC HRC (show Hid _ from HRB.o.below Aa.o) HBB HCT hlb Jb Jc hi5 hPI
end Go.Proofs.YtmejdflmcikkdaaGreatDoor
