/- Stepped, behind the look-up of the pipe. -/
import Derived.Test.YtmejdflmcikkdaaGreatDoorVAb
import Derived.Test.YtmejdflmcikkdaaGreatDoorVa33
set_option linter.all false
set_option maxRecDepth 100000
set_option maxHeartbeats 64000000
namespace Go.Proofs.YtmejdflmcikkdaaGreatDoor
open Go.RowKit Go.Gs Go.Maps Tryz
variable {O O1:qW}{d:RD}{n:SNode}{p:SProc}{s:PSlot}{x:SPipe}{RES:SMach × Int}
theorem bC9{w wc:World}{D r i:Nat}{an af ao ag ai:Option Addr}{cn cf co cg ci cP cX gP gX bp bn bm ba b4 mp gI q P IL:Nat}(HD:Hid (RMem w D r O NoG d/\d.vM=.bool true/\Shape d.M/\d.M.ns[i]?=some n/\d.M.ps[i]?=some p/\(∀n∈d.M.ns,G8 n)/\SmallM d.M))(HV:Hid (d.vP=.slice (some ⟨gP,0,none⟩) d.M.ps.length cP/\d.vX=.slice (some ⟨gX,0,none⟩) d.M.pipes.length cX/\d.vN=.slice an d.M.ns.length cn/\d.vF=.slice af d.M.fs.length cf/\d.P[i]?=some s/\s.ov=.slice ao p.out.length co/\s.gv=.slice ag p.got.length cg))(HE:Hid (∀W,Below D w W->q8 W/\W.ShapedOpen prog))(HFU:Hid (∀(dk:RD)(Ok:qW)(pk:SProc)(W:World),StepB w W D r O Ok dk n ai ci i gP bp bn bm ba b4 mp gI->dk.M.ns=d.M.ns->dk.M.fs=d.M.fs->dk.M.ps.length=d.M.ps.length->dk.vP=d.vP->dk.vM=d.vM->dk.M.ps[i]?=some pk->pk.out.length=p.out.length->pk.got.length=p.got.length->pk.got.flatten.length<=60300000->(∀b∈pk.out,b.length<=1000000000)->Calls prog 50 #[.pointer (some ⟨bp,0,none⟩),.pointer (some ⟨bn,0,none⟩),.pointer (some ⟨bm,0,none⟩),.pointer (some ⟨ba,0,none⟩)] W fun e w'=>e=.returned (.tuple #[])/\∃O',RefA NoG w' D r O' (dk.M.setP i (D2 n dk.M.fs pk))/\KeptO O O' w w'))(HNO:Hid (∀b∈p.out,b=[]))(HIL:Hid (IL=n.ins.length/\p.got.length=IL))(HFP:Hid (ProcF n p))(HP:Hid (p.pos=(P:Int)/\pchk x=0))
 (HSw:Hid (StepB w wc D r O O1 d n ai ci i gP bp bn bm ba b4 mp gI)) (HX:Hid (d.M.pipes[q]?=some x)) (HR8:Hid (RES=Y4 d.M i n q p)) (hi5:IL<=5) (hPI:P<IL) {vz0 vz1 vz3 vz4 vz5 vz6 vz11 vz12 vz13 vz14 vz15 vz16 vz17 vz18 vz20 vz21 vz22 vz23 vz24 vz25 vz26 vz27 vz28 vz29 vz30 vz31 vz32 vz33 vz34 vz35 vz36 vz37 vz38 vz39 vz40 vz41 vz42 vz43 vz44 vz45 vz46 vz47 vz48 vz49 vz50 vz51 vz52 vz53 vz54 vz55 vz56 vz57 vz58 vz59 vz60 vz61 vz62 vz63 vz64 vz65 vz66 vz67 vz68 vz69 vz70 vz71 vz72 vz73 vz74 vz75 vz76 vz77 vz78 vz79 vz80 vz81 vz82 vz83 vz84 vz85 vz86 vz87 vz88 vz89 vz90 vz91 vz92 vz93 vz94 vz95 vz96 vz97 vz98 vz99 vz100 vz101 vz102 vz103 vz104 vz105 vz106 vz107 vz108 vz109 vz110 vz111 vz112 vz113 vz114 vz115 vz116 vz117 vz118 vz119 vz120 vz121 vz122 vz123 vz124 vz125 vz126 vz127 vz128 vz129 vz130 vz131 vz132 vz133 vz134 vz135 vz136 vz137 vz138 vz139 vz140 vz141 vz142 vz143 vz144 vz145 vz146 vz147 vz148 vz149 vz150 vz151 vz152 vz153 vz154 vz155 vz156 vz157 vz158 vz159 vz160 vz161 vz162 vz163 vz164 vz165 vz166 vz167 vz168 vz169 vz170 vz171 vz172 vz173 vz174 vz175 vz176 vz177 vz178 vz179 vz180 vz181 vz182 vz183 vz184 vz185 vz186 vz187 vz188 vz189 vz190 vz191 vz192 vz193 vz194 vz195 vz196 vz197 vz198 vz199 vz200 vz201 vz202 vz203 vz204 vz205 vz206 vz207 vz208 vz209 vz210 vz211 vz212 vz213 vz214 vz215 vz216 vz217 vz218 vz219 vz220 vz221 vz222 vz223 vz224 vz225 vz226 vz227 vz228 vz229 vz230 vz231 vz232 vz233 vz234 vz235 vz236 vz237 vz238 vz239 vz240 vz241 vz242 vz243 vz244 vz245 vz246 vz247 vz248 vz249 vz250 vz251 vz252 vz253 vz254 vz255 vz256 vz257 vz258 vz259 vz260 vz261 vz262 vz263 vz264 vz265 vz266 vz267 vz268 vz269 vz270 vz271 vz272 vz273 vz274 vz275 vz276 vz277 vz278 vz279 vz280 vz281 vz282 vz283 vz284 vz285 vz286 vz287 vz288 vz289 vz290 vz291 vz292 vz293 vz294 vz295 vz296 vz297 vz298 vz299 vz300 vz301 vz302 vz303 vz304 vz305 vz306 vz307 vz308 vz309 vz310 vz311 vz312 vz313 vz314 vz315 vz316 vz317 vz318 vz319 vz320 vz321 vz322 vz323 vz324 vz325 vz326 vz327 vz328 vz329 vz330 vz331 vz332 vz333 vz334 vz335 vz336 vz337 vz338 vz339 vz340 vz341 vz342 vz343 vz344 vz345 vz346 vz347 vz348 vz349 vz350 vz351:Value}:
 Code.wp prog ((Tryz.f15.body.bind (ag8 33)).getD .skip) (bodyPost prog Tryz.f15 fun e w'=>e=.returned (.int .i64 RES.2)/\∃O',RefA NoG w' D r O' RES.1/\KeptO O O' w w') ⟨#[vz0,vz1,.pointer (some ⟨bm,0,none⟩),vz3,vz4,vz5,vz6,.pointer (some ⟨bp,0,none⟩),.pointer (some ⟨bn,0,none⟩),.pointer (some ⟨ba,0,none⟩),.func (.func 50) #[] #[.pointer (some ⟨bp,0,none⟩),.pointer (some ⟨bn,0,none⟩),.pointer (some ⟨bm,0,none⟩),.pointer (some ⟨ba,0,none⟩)],vz11,vz12,vz13,vz14,vz15,vz16,vz17,vz18,.pointer (some ⟨gX,q*4,none⟩),vz20,vz21,vz22,vz23,vz24,vz25,vz26,vz27,vz28,vz29,vz30,vz31,vz32,vz33,vz34,vz35,vz36,vz37,vz38,vz39,vz40,vz41,vz42,vz43,vz44,vz45,vz46,vz47,vz48,vz49,vz50,vz51,vz52,vz53,vz54,vz55,vz56,vz57,vz58,vz59,vz60,vz61,vz62,vz63,vz64,vz65,vz66,vz67,vz68,vz69,vz70,vz71,vz72,vz73,vz74,vz75,vz76,vz77,vz78,vz79,vz80,vz81,vz82,vz83,vz84,vz85,vz86,vz87,vz88,vz89,vz90,vz91,vz92,vz93,vz94,vz95,vz96,vz97,vz98,vz99,vz100,vz101,vz102,vz103,vz104,vz105,vz106,vz107,vz108,vz109,vz110,vz111,vz112,vz113,vz114,vz115,vz116,vz117,vz118,vz119,vz120,vz121,vz122,vz123,vz124,vz125,vz126,vz127,vz128,vz129,vz130,vz131,vz132,vz133,vz134,vz135,vz136,vz137,vz138,vz139,vz140,vz141,vz142,vz143,vz144,vz145,vz146,vz147,vz148,vz149,vz150,vz151,vz152,vz153,vz154,vz155,vz156,vz157,vz158,vz159,vz160,vz161,vz162,vz163,vz164,vz165,vz166,vz167,vz168,vz169,vz170,vz171,vz172,vz173,vz174,vz175,vz176,vz177,vz178,vz179,vz180,vz181,vz182,vz183,vz184,vz185,vz186,vz187,vz188,vz189,vz190,vz191,vz192,vz193,vz194,vz195,vz196,vz197,vz198,vz199,vz200,vz201,vz202,vz203,vz204,vz205,vz206,vz207,vz208,vz209,vz210,vz211,vz212,vz213,vz214,vz215,vz216,vz217,vz218,vz219,vz220,vz221,vz222,vz223,vz224,vz225,vz226,vz227,vz228,vz229,vz230,vz231,vz232,vz233,vz234,vz235,vz236,vz237,vz238,vz239,vz240,vz241,vz242,vz243,vz244,vz245,vz246,vz247,vz248,vz249,vz250,vz251,vz252,vz253,vz254,vz255,vz256,vz257,vz258,vz259,vz260,vz261,vz262,vz263,vz264,vz265,vz266,vz267,vz268,vz269,vz270,vz271,vz272,vz273,vz274,vz275,vz276,vz277,vz278,vz279,vz280,vz281,vz282,vz283,vz284,vz285,vz286,vz287,vz288,vz289,vz290,vz291,vz292,vz293,vz294,vz295,vz296,vz297,vz298,vz299,vz300,vz301,vz302,vz303,vz304,vz305,vz306,vz307,vz308,vz309,vz310,vz311,vz312,vz313,vz314,vz315,vz316,vz317,vz318,vz319,vz320,vz321,vz322,vz323,vz324,vz325,vz326,vz327,vz328,vz329,vz330,vz331,vz332,vz333,vz334,vz335,vz336,vz337,vz338,vz339,vz340,vz341,vz342,vz343,vz344,vz345,vz346,vz347,vz348,vz349,vz350,vz351],[]⟩ wc:=by
 conv=>arg 2;whnf
 have en2:∀args w,(callFunc 50 args).run prog w=.ok (.enter 50 args) w:=enters_of func50 qQ rfl;have en1:∀args w,(callFunc 49 args).run prog w=.ok (.enter 49 args) w:=enters_of func49 qQ rfl;obtain⟨xp,xm,xa,_⟩:=HSw.o.cells;obtain⟨p0,p1,p2,p3,p4,hfP,hOP,hgP⟩:=HSw.o.mem.procIn HD.o.2.2.2.2.1 HV.o.1 HV.o.2.2.2.2.1;obtain⟨t,ht,hRt,x0,x1,x2,x3,hfX,hOX,hgX⟩:=HSw.o.mem.atX HV.o.2.1 HX.o;obtain⟨n0,n1,n2,n3,n4,n5,n6,n7⟩:=D8 HSw.o.full.n.1;rw[HP.o.1]at p1;rw[<- HIL.o.1]at n7;unfold sl at x0;by_cases hxb:x.b=[]
 .
  have hpi:d.M.pipe q=x:=aa9 HX.o
  cases hxc:x.closed with
  | false=>
   have HR9:=qH (show RES=(d.M,8) by rw[HR8.o];unfold Y4;rw[hpi,hxc,hxb];rfl);rw[hxb]at x0;rw[hxc]at x2;simp only[xI]at x0;clear HR8 hpi hxb hxc p0 p1 p2 p3 p4 hfP ht hRt hfX HFU n0 n1 n2 n3 n4 n5 n6 n7 xp xm xa x1 x3;go_wp2_with fail;(try simp only[Exit.inBlock,Exit.then])
   go_ret;rw[HR9.o];exact⟨rfl,HSw.o.done HD.o.2.1⟩
  | true=>
   have HR9:=qH (show RES=if P+1=IL then (d.M.setP i (D2 n d.M.fs ⟨p.got,p.pos+1,p.out,p.rd,p.ov⟩),0) else (d.M.setP i ⟨p.got,p.pos+1,p.out,p.rd,p.ov⟩,0) by
    rw[HR8.o]
    unfold Y4
    rw[hpi,hxc,hxb]
    simp only[List.isEmpty_nil,Bool.and_self,if_true]
    rw[HP.o.1,HIL.o.2]
    by_cases e:P+1=IL
    . rw[qF e,qF qO]
    . rw[qB e,qB qO])
   have hS9:StepB w (wc.setCell ⟨gP,i*5+1,none⟩ (.int .i64 (p.pos+1))) D r O O1 (d.setProc i ⟨p.got,p.pos+1,p.out,p.rd,p.ov⟩ s) n ai ci i gP bp bn bm ba b4 mp gI:=by
    have hk9:KeptO O1 O1 wc (wc.setCell ⟨gP,i*5+1,none⟩ (.int .i64 (p.pos+1))):=(KeptO.refl O1 wc).set hOP;have hne:b4≠gP:=fun e=>by have:=HSw.o.box4.2;rw[e,hOP]at this;cases this
    exact⟨HSw.o.mem.setNum (k:=1) HD.o.2.2.2.2.1 HV.o.2.2.2.2.1 HV.o.1 hOP qO rfl rfl rfl,HSw.o.kept.trans hk9,HSw.o.full.keep hk9,(Below.heap_setCell _ _ _ _ hne).trans HSw.o.box4.1,HSw.o.box4.2⟩
   rw[HP.o.1]at hS9 HR9;obtain⟨W9,hW9⟩:=qE (wc.setCell ⟨gP,i*5+1,none⟩ (.int .i64 ((P:Int)+1)));rw[<- hW9]at hS9;have HS9:=qH hS9;obtain⟨yp,_,_,_⟩:=hS9.cells;obtain⟨_,y1,_⟩:=hS9.mem.procIn (gP:=gP) (cP:=cP) (p:=⟨p.got,(P:Int)+1,p.out,p.rd,p.ov⟩) (s:=s) (j8 HD.o.2.2.2.2.1) (by show d.vP=_;rw[HV.o.1];simp[RD.setProc,SMach.setP]) (j8 HV.o.2.2.2.2.1);obtain⟨_,_,_,_,_,_,_,y7⟩:=D8 hS9.full.n.1;rw[<- HIL.o.1]at y7;have HF9:=qH (show ∀W,Bq W9 W->_ from fun W hW=>HFU.o (d.setProc i ⟨p.got,(P:Int)+1,p.out,p.rd,p.ov⟩ s) O1 ⟨p.got,(P:Int)+1,p.out,p.rd,p.ov⟩ W (hS9.below hW) rfl rfl (by simp[RD.setProc,SMach.setP]) rfl rfl (j8 HD.o.2.2.2.2.1) rfl rfl (by have:=HD.o.2.2.2.2.2.2.got p (mGt HD.o.2.2.2.2.1);show p.got.flatten.length<=_;omega) (fun b hb=>by rw[HNO.o b hb];simp));have f1:=hfP (i*5+1);rw[hxb]at x0;rw[hxc]at x2;simp only[xI]at x0;clear HR8 hpi hxb hxc p0 p2 p3 p4 hfP ht hRt hfX HFU n0 n1 n2 n3 n4 n5 n6 n7 xm xa x1 x3 hS9 HSw;go_upto_region 37 with fail;rw[<- hW9];clear hW9 f1 xp p1 x0 x2;by_cases e:P+1=IL;have HRa:=qH (show RES=(d.M.setP i (D2 n d.M.fs ⟨p.got,(P:Int)+1,p.out,p.rd,p.ov⟩),0) by rw[HR9.o,qF e]);have Gh:((P:Int)+1)=(IL:Int):=qO;have hnb:(((P:Int)+1)==(IL:Int))=true:=by rw[beq_iff_eq];omega
   rotate_left
   have HRa:=qH (show RES=(d.M.setP i ⟨p.got,(P:Int)+1,p.out,p.rd,p.ov⟩,0) by rw[HR9.o,qB e]);have Gh:¬((P:Int)+1)=(IL:Int):=qO;have hnb:(((P:Int)+1)==(IL:Int))=false:=by rw[qg];omega
   rotate_left
   all_goals
    clear HR9;go_quiet (fail)
   . clear yp y1 y7;go_wp2_with (go_at_fn 50;refine qD (HF9.o _ (by first|exact Below.refl _ _ | exact (Below.refl _ _).drew | exact P4)) ?_;rintro e9 w9⟨rfl,hEN⟩)
     (try simp only[Exit.inBlock,Exit.then])
     go_ret;rw[HRa.o];obtain⟨O',h1,h2⟩:=hEN;rw[show (d.setProc i ⟨p.got,(P:Int)+1,p.out,p.rd,p.ov⟩ s).M=d.M.setP i ⟨p.got,(P:Int)+1,p.out,p.rd,p.ov⟩ from rfl,bG2]at h1;exact⟨rfl,O',h1,h2⟩
   . go_wp2_with fail;(try simp only[Exit.inBlock,Exit.then])
     go_ret;rw[HRa.o];exact⟨rfl,StepB.done (HS9.o.below (by first|exact Below.refl _ _ | exact (Below.refl _ _).drew | exact P4)) HD.o.2.1⟩
 .
  as_aux_lemma=>
   have hxl:0<x.b.length:=xj.2 hxb
   have hpp:=Q7 HP.o.2
   have hx4:x.b.length<=40000:=by have h2:=ae1 hpp.2.1;have:=hpp.2.2.1;omega
   obtain⟨m,hm⟩:=qE (min 8 x.b.length)
   have hm1:m<=x.b.length:=qO
   have hm8:m<=8:=qO
   have HM:Hid (m=min 8 x.b.length/\x.b.take 8=x.b.take m/\x.b.drop 8=x.b.drop m):=⟨hm,by
    by_cases e:8<=x.b.length
    . rw[show m=8 by omega]
    . rw[qP qO,qP qO],by
    by_cases e:8<=x.b.length
    . rw[show m=8 by omega]
    . rw[qi qO,qi qO]⟩
   have HR9:=qH (show RES=(F3 (d.M.setX q ⟨x.b.drop m,x.room,x.closed,x.shut⟩) i n q (p.setGot (p.at++x.b.take m)),0) by
    rw[HR8.o]
    unfold Y4
    rw[aa9 HX.o,<- HM.o.2.1,<- HM.o.2.2]
    have e:x.b.isEmpty=false:=by
     cases hh:x.b with
     | nil=>exact absurd hh hxb
     | cons y l=>rfl
    rw[e]
    simp)
   obtain⟨ta,tc⟩:=t
   simp only at x0
   have hta:∃g1 o1,ta=some ⟨g1,o1,none⟩:=by
    obtain⟨_,ao',cap',e,_,_,h4⟩:=hRt.1
    obtain⟨b',off',e4,_⟩:=h4 qO
    unfold sl at e
    injection e with e1
    exact⟨b',off',by rw[show ta=ao' from e1,e4]⟩
   obtain⟨g1,o1,rfl⟩:=hta
   have hrx:=hRt.1
   unfold sl at hrx
   simp only at hrx
   obtain⟨_,Oi,Vm⟩:=t8 hrx
   obtain⟨Is,Qj,Md⟩:=ap8 hrx rfl hm1 qO
   have HTK:=qH (show g1≠gX/\g1<wc.heap.size/\∀W,W.heap[g1]?=wc.heap[g1]? -> Reads W (.slice (some ⟨g1,o1,none⟩) m tc) m ((x.b.take m).map U) from by
    have ho1:O1 g1=some (.pipe q):=hRt.2.2 hxb _ rfl
    refine⟨(fun e=>by rw[e,hOX]at ho1;cases ho1),(HSw.o.mem.lo g1 _ ho1).2,fun W hW=>ap7 Qj (fun a ha _=>by cases ha;exact hW)⟩)
   have f0:=hfX (q*4)
   have hcp:∀(a8:Option Addr)(c8:Nat),Reads wc (.slice a8 (x.b.length-m) c8) (x.b.length-m) ((x.b.drop m).map U)->∃a' c' w1,(Builtin.append_ #[28,28] 28 #[.slice (some ⟨wc.heap.size,0,none⟩) 0 0,.slice a8 (x.b.length-m) c8]).run prog (wc.alloc (.cells #[] 5))=.ok (.slice a' (x.b.length-m) c') w1/\w1.cell? ⟨gX,q*4,none⟩=some (.slice (some ⟨g1,o1,none⟩) x.b.length tc)/\w1.frozen? ⟨gX,q*4,none⟩=false/\Hid (w1.ownsRow wc.heap.size 5 1 (.slice a' (x.b.length-m) c') (x.b.drop m).length ((x.b.drop m).map U)/\Bq wc w1):=fun a8 c8 h8=>by
    have hl:(x.b.drop m).length=x.b.length-m:=qy
    rw[<- hl]at h8
    obtain⟨v',w1,Ae,ho,hb⟩:=Y8 h8 qO 28
    obtain⟨a',c',rfl,_,_⟩:=I0 ho
    rw[hl]at Ae
    refine⟨a',c',w1,Ae,(hb.cell hgX).trans x0,K6 hb hgX f0,?_⟩
    rw[hl]at ho ⊢
    exact⟨ho,hb⟩
   obtain⟨XL,hXL⟩:=qE x.b.length
   have HXL:=qH hXL
   rw[<- hXL]at x0 hxl hx4 hm1 Oi Is hcp hm
   have hgl:Hid (O1 gX=some .pipes/\gX<wc.heap.size/\d.X[q]?=some (some ⟨g1,o1,none⟩,tc)/\O1 gP=some .procs):=⟨hOX,hgX,ht,hOP⟩
   have Ku:tc=m->Reads wc (.slice (some ⟨g1,o1,none⟩) (XL-m) 0) (XL-m) ((x.b.drop m).map U):=fun e=>by
    have e2:XL=m:=by rw[hXL];exact Md e
    have e3:x.b.drop m=[]:=qi qO
    rw[e2,xt,e3]
    exact⟨rfl,_,0,rfl,qA _,by simp[maxLen],fun h=>absurd rfl h⟩
   have HK:Hid (x.b≠[]/\m=min 8 x.b.length/\d.X[q]?=some (some ⟨g1,o1,none⟩,tc)):=⟨hxb,HM.o.1,ht⟩
   clear hxb hpp hRt Qj hfX ht hOX hOP hrx hXL
   go_upto_if 190 with fail
   go_cut [20] (fun y wx=>y=.slice (some ⟨g1,o1,none⟩) m tc/\wx=wc)
   case first=>
    as_aux_lemma=>
     by_cases h8:8<XL
     . have em:=qH (show m=8 by omega)
       have h8':(8:Int)<(XL:Int):=qO
       have h9:8<=tc:=qO
       have h9':(8:Int)<=(tc:Int):=qO
       clear hm Md Is Ku hcp hm8 hm1 p0 p1 p2 p3 p4 hfP x1 x2 x3 n0 n1 n2 n3 n4 n5 n6 n7 xp xm xa
       go_wp2_with fail
       go_meet
       exact⟨by rw[em.out],rfl⟩
     . have em:=qH (show m=XL by omega)
       have h8':¬(8:Int)<(XL:Int):=qO
       clear hm Md Is Ku hcp hm8 hm1 p0 p1 p2 p3 p4 hfP x1 x2 x3 n0 n1 n2 n3 n4 n5 n6 n7 xp xm xa
       go_wp2_with fail
       go_meet
       exact⟨by rw[em.out],rfl⟩
   case rest=>
    rename_i Kz hKz
    obtain⟨rfl,rfl⟩:=hcut
    refine hKz _ _ ?_
    exact bh7 HD HV HE HFU HNO HIL HFP HP HSw HX HR8 hi5 hPI HK
end Go.Proofs.YtmejdflmcikkdaaGreatDoor
