/- Stepped, what came: the switch. -/
import Derived.Test.YtmejdflmcikkdaaGreatDoorVAb
import Derived.Laws.EntriesVeiled
import Derived.Test.YtmejdflmcikkdaaGreatDoorVa31
set_option linter.all false
set_option maxRecDepth 100000
set_option maxHeartbeats 64000000
namespace Go.Proofs.YtmejdflmcikkdaaGreatDoor
open Go.RowKit Go.Gs Go.Maps Tryz
variable {n:SNode}{x3:SPipe}{M3:SMach}{RES:SMach × Int}{B:qU}
def ad7:Code->Option Nat
 | .region m _ _=>some m
 | .seq a _=>ad7 a
 | .block _ c=>ad7 c
 | .scope c=>ad7 c
 | .loop c=>ad7 c
 | _=>none
def ag8(n:Nat):Code->Option Code
 | .seq a b=>if ad7 a=some n then some (.seq a b) else match ag8 n a with
  | some c=>some c
  | none=>ag8 n b
 | .block _ c=>ag8 n c
 | .scope c=>ag8 n c
 | .loop c=>ag8 n c
 | .cond _ a b=>match ag8 n a with
  | some c=>some c
  | none=>ag8 n b
 | _=>none
theorem aQ6{w wr:World}{D r i:Nat}{O O1 O3:qW}{d d3:RD}{p p3:SProc}{s s4:PSlot}{an af ao ag ai:Option Addr}{cn cf co cg ci cP cX cG gP gX gG bp bn bm ba b4 mp gI q P IL g3 o3 c3 BL fd ls:Nat}(HD:Hid (RMem w D r O NoG d/\d.vM=.bool true/\Shape d.M/\d.M.ns[i]?=some n/\d.M.ps[i]?=some p/\(∀n∈d.M.ns,G8 n)/\SmallM d.M))(HV:Hid (d.vP=.slice (some ⟨gP,0,none⟩) d.M.ps.length cP/\d.vX=.slice (some ⟨gX,0,none⟩) d.M.pipes.length cX/\d.vN=.slice an d.M.ns.length cn/\d.vF=.slice af d.M.fs.length cf/\d.P[i]?=some s/\s.ov=.slice ao p.out.length co/\s.gv=.slice ag p.got.length cg))(HE:Hid (∀W,Below D w W->q8 W/\W.ShapedOpen prog))(HFU:Hid (∀(dk:RD)(Ok:qW)(pk:SProc)(W:World),StepB w W D r O Ok dk n ai ci i gP bp bn bm ba b4 mp gI->dk.M.ns=d.M.ns->dk.M.fs=d.M.fs->dk.M.ps.length=d.M.ps.length->dk.vP=d.vP->dk.vM=d.vM->dk.M.ps[i]?=some pk->pk.out.length=p.out.length->pk.got.length=p.got.length->pk.got.flatten.length<=60300000->(∀b∈pk.out,b.length<=1000000000)->Calls prog 50 #[.pointer (some ⟨bp,0,none⟩),.pointer (some ⟨bn,0,none⟩),.pointer (some ⟨bm,0,none⟩),.pointer (some ⟨ba,0,none⟩)] W fun e w'=>e=.returned (.tuple #[])/\∃O',RefA NoG w' D r O' (dk.M.setP i (D2 n dk.M.fs pk))/\KeptO O O' w w'))(HNO:Hid (∀b∈p.out,b=[]))(HIL:Hid (IL=n.ins.length/\p.got.length=IL))(HFP:Hid (ProcF n p))
 (HS9:Hid (StepB w wr D r O O3 d3 n ai ci i gP bp bn bm ba b4 mp gI)) (HC:Hid (CameA d d3 M3 i q P IL p p3 (some ⟨g3,o3,none⟩,c3) s4 x3 B gG cG gP cP gX cX/\M3.pipe q=x3/\d3.M.sunk=d.M.sunk/\s4.ov=s.ov)) (HRC:Hid (RES=(F3 M3 i n q p3,0))) (HRB9:Hid (Reads wr (.slice (some ⟨g3,o3,none⟩) BL c3) BL (B.map U))) (HBB:Hid (BL=B.length/\BL<=60300000/\0<BL)) (HCT:Hid (fd=B.count 10/\ls=j3 B)) (hlb:ls<=BL) (Jb:BL<=c3) (Jc:c3<=9223372036854775807) (hi5:IL<=5) (hPI:P<IL) {vz0 vz1 vz3 vz4 vz5 vz6 vz11 vz12 vz13 vz14 vz15 vz16 vz17 vz18 vz20 vz24 vz25 vz26 vz27 vz28 vz29 vz30 vz31 vz32 vz33 vz34 vz35 vz36 vz37 vz38 vz39 vz40 vz41 vz42 vz43 vz44 vz45 vz46 vz47 vz48 vz49 vz50 vz51 vz52 vz53 vz54 vz55 vz56 vz57 vz58 vz59 vz60 vz61 vz62 vz63 vz64 vz65 vz66 vz67 vz68 vz69 vz70 vz71 vz72 vz73 vz74 vz75 vz76 vz77 vz78 vz79 vz80 vz81 vz82 vz83 vz84 vz85 vz86 vz87 vz88 vz89 vz90 vz91 vz92 vz93 vz94 vz95 vz96 vz97 vz98 vz99 vz100 vz101 vz102 vz103 vz104 vz105 vz106 vz107 vz108 vz109 vz110 vz111 vz112 vz113 vz114 vz115 vz116 vz117 vz118 vz119 vz120 vz121 vz122 vz123 vz124 vz125 vz126 vz127 vz128 vz129 vz130 vz131 vz132 vz133 vz134 vz135 vz136 vz137 vz138 vz139 vz140 vz141 vz142 vz143 vz144 vz145 vz146 vz147 vz148 vz149 vz150 vz151 vz152 vz153 vz154 vz155 vz156 vz157 vz158 vz159 vz160 vz161 vz162 vz163 vz164 vz165 vz166 vz167 vz168 vz169 vz170 vz171 vz172 vz173 vz174 vz175 vz176 vz177 vz178 vz179 vz180 vz181 vz182 vz183 vz184 vz185 vz186 vz187 vz188 vz189 vz190 vz191 vz192 vz193 vz194 vz195 vz196 vz197 vz198 vz199 vz200 vz201 vz202 vz203 vz204 vz205 vz206 vz207 vz208 vz209 vz210 vz211 vz212 vz213 vz214 vz215 vz216 vz217 vz218 vz219 vz220 vz221 vz222 vz223 vz224 vz225 vz226 vz227 vz228 vz229 vz230 vz231 vz232 vz233 vz234 vz235 vz236 vz237 vz238 vz239 vz240 vz241 vz242 vz243 vz244 vz245 vz246 vz247 vz248 vz249 vz250 vz251 vz252 vz253 vz254 vz255 vz256 vz257 vz258 vz259 vz260 vz261 vz262 vz263 vz264 vz265 vz266 vz267 vz268 vz269 vz270 vz271 vz272 vz273 vz274 vz275 vz276 vz277 vz278 vz279 vz280 vz281 vz282 vz283 vz284 vz285 vz286 vz287 vz288 vz289 vz290 vz291 vz292 vz293 vz294 vz295 vz296 vz297 vz298 vz299 vz300 vz301 vz302 vz303 vz304 vz305 vz306 vz307 vz308 vz309 vz310 vz311 vz312 vz313 vz314 vz315 vz316 vz317 vz318 vz319 vz320 vz321 vz322 vz323 vz324 vz325 vz326 vz327 vz328 vz329 vz330 vz331 vz332 vz333 vz334 vz335 vz336 vz337 vz338 vz339 vz340 vz341 vz342 vz343 vz344 vz345 vz346 vz347 vz348 vz349 vz350 vz351:Value}:
 Code.wp prog ((Tryz.f15.body.bind (ag8 55)).getD .skip) (bodyPost prog Tryz.f15 fun e w'=>e=.returned (.int .i64 RES.2)/\∃O',RefA NoG w' D r O' RES.1/\KeptO O O' w w') ⟨#[vz0,vz1,.pointer (some ⟨bm,0,none⟩),vz3,vz4,vz5,vz6,.pointer (some ⟨bp,0,none⟩),.pointer (some ⟨bn,0,none⟩),.pointer (some ⟨ba,0,none⟩),.func (.func 50) #[] #[.pointer (some ⟨bp,0,none⟩),.pointer (some ⟨bn,0,none⟩),.pointer (some ⟨bm,0,none⟩),.pointer (some ⟨ba,0,none⟩)],vz11,vz12,vz13,vz14,vz15,vz16,vz17,vz18,.pointer (some ⟨gX,q*4,none⟩),vz20,.slice (some ⟨g3,o3,none⟩) BL c3,.int .i64 (fd:Int),.int .i64 (ls:Int),vz24,vz25,vz26,vz27,vz28,vz29,vz30,vz31,vz32,vz33,vz34,vz35,vz36,vz37,vz38,vz39,vz40,vz41,vz42,vz43,vz44,vz45,vz46,vz47,vz48,vz49,vz50,vz51,vz52,vz53,vz54,vz55,vz56,vz57,vz58,vz59,vz60,vz61,vz62,vz63,vz64,vz65,vz66,vz67,vz68,vz69,vz70,vz71,vz72,vz73,vz74,vz75,vz76,vz77,vz78,vz79,vz80,vz81,vz82,vz83,vz84,vz85,vz86,vz87,vz88,vz89,vz90,vz91,vz92,vz93,vz94,vz95,vz96,vz97,vz98,vz99,vz100,vz101,vz102,vz103,vz104,vz105,vz106,vz107,vz108,vz109,vz110,vz111,vz112,vz113,vz114,vz115,vz116,vz117,vz118,vz119,vz120,vz121,vz122,vz123,vz124,vz125,vz126,vz127,vz128,vz129,vz130,vz131,vz132,vz133,vz134,vz135,vz136,vz137,vz138,vz139,vz140,vz141,vz142,vz143,vz144,vz145,vz146,vz147,vz148,vz149,vz150,vz151,vz152,vz153,vz154,vz155,vz156,vz157,vz158,vz159,vz160,vz161,vz162,vz163,vz164,vz165,vz166,vz167,vz168,vz169,vz170,vz171,vz172,vz173,vz174,vz175,vz176,vz177,vz178,vz179,vz180,vz181,vz182,vz183,vz184,vz185,vz186,vz187,vz188,vz189,vz190,vz191,vz192,vz193,vz194,vz195,vz196,vz197,vz198,vz199,vz200,vz201,vz202,vz203,vz204,vz205,vz206,vz207,vz208,vz209,vz210,vz211,vz212,vz213,vz214,vz215,vz216,vz217,vz218,vz219,vz220,vz221,vz222,vz223,vz224,vz225,vz226,vz227,vz228,vz229,vz230,vz231,vz232,vz233,vz234,vz235,vz236,vz237,vz238,vz239,vz240,vz241,vz242,vz243,vz244,vz245,vz246,vz247,vz248,vz249,vz250,vz251,vz252,vz253,vz254,vz255,vz256,vz257,vz258,vz259,vz260,vz261,vz262,vz263,vz264,vz265,vz266,vz267,vz268,vz269,vz270,vz271,vz272,vz273,vz274,vz275,vz276,vz277,vz278,vz279,vz280,vz281,vz282,vz283,vz284,vz285,vz286,vz287,vz288,vz289,vz290,vz291,vz292,vz293,vz294,vz295,vz296,vz297,vz298,vz299,vz300,vz301,vz302,vz303,vz304,vz305,vz306,vz307,vz308,vz309,vz310,vz311,vz312,vz313,vz314,vz315,vz316,vz317,vz318,vz319,vz320,vz321,vz322,vz323,vz324,vz325,vz326,vz327,vz328,vz329,vz330,vz331,vz332,vz333,vz334,vz335,vz336,vz337,vz338,vz339,vz340,vz341,vz342,vz343,vz344,vz345,vz346,vz347,vz348,vz349,vz350,vz351],[]⟩ wr:=by
 conv=>arg 2;whnf
 have en2:∀args w,(callFunc 50 args).run prog w=.ok (.enter 50 args) w:=enters_of func50 qQ rfl;have en1:∀args w,(callFunc 49 args).run prog w=.ok (.enter 49 args) w:=enters_of func49 qQ rfl;obtain⟨n0,n1,n2,n3,n4,n5,n6,n7⟩:=D8 HS9.o.full.n.1;obtain⟨xp,xm,xa,_⟩:=HS9.o.cells;obtain⟨q0,q1,q2,y0,yf,_,_,_⟩:=HC.o.1.cells HS9.o;have hgB:p3.got[p3.pos.toNat]?=some B:=by rw[HC.o.1.pos,qh];exact HC.o.1.got
 have HGB:=qH hgB;have HZ:=qH (show RES.2=0 by rw[HRC.o]);have hnt:=HD.o.2.2.1.g.node n (mGt HD.o.2.2.2.1);have HNC:=qH hnt;clear hgB hnt;by_cases hk5:n.kind=5
 ·
  as_aux_lemma=>
   have HR1:=qH (show RES.1=⟨M3.ns,M3.fs,M3.pipes,M3.ps.set i (p3.setGot []),M3.sunk++B⟩ by
    rw[HRC.o,bB5 M3 i n q p3 hk5]
    unfold SProc.at
    rw[HGB.o]
    rfl)
   have hsl:d3.M.sunk=M3.sunk:=by rw[HC.o.1.eM];rfl
   have HAS:=qH (show ∀W,Bq wr W->Calls prog 49 #[.pointer (some ⟨r,4,none⟩),.slice (some ⟨g3,o3,none⟩) BL c3] W fun e w'=>e=.returned (.tuple #[])/\w'.cell? ⟨ba,0,none⟩=some (.func (.func 49) #[] #[])/\w'.cell? ⟨bm,0,none⟩=some (.pointer (some ⟨r,0,none⟩))/\Hid (∃O4 s5,StepB w w' D r O O4 (d3.setSunk (d3.M.sunk++B) s5) n ai ci i gP bp bn bm ba b4 mp gI/\CameA d (d3.setSunk (d3.M.sunk++B) s5) ⟨M3.ns,M3.fs,M3.pipes,M3.ps,d3.M.sunk++B⟩ i q P IL p p3 (some ⟨g3,o3,none⟩,c3) s4 x3 B gG cG gP cP gX cX) from fun W hW=>by
    have h1:=HC.o.1.addSunk (HS9.o.below hW) (by rw[HC.o.2.2.1];exact HD.o.2.2.2.2.2.2.sunk) (by have:=HBB.o;omega)
    rw[<- HBB.o.1]at h1
    refine qD h1 ?_
    rintro e w'⟨rfl,O4,s5,h2,h3⟩
    obtain⟨_,z2,z3,_⟩:=h2.cells
    exact⟨rfl,z3,z2,O4,s5,h2,h3⟩)
   rw[hk5]at n0
   clear HFU q0 q1 q2 y0 yf n1 n2 n3 n4 n5 n6 n7 hk5 xp
   go_upto_region 56 with fail
   go_cut [] (fun wx=>Hid (∃O4 s5,StepB w wx D r O O4 (d3.setSunk (d3.M.sunk++B) s5) n ai ci i gP bp bn bm ba b4 mp gI/\CameA d (d3.setSunk (d3.M.sunk++B) s5) ⟨M3.ns,M3.fs,M3.pipes,M3.ps,d3.M.sunk++B⟩ i q P IL p p3 (some ⟨g3,o3,none⟩,c3) s4 x3 B gG cG gP cP gX cX))
   case first=>
    go_region_held3 (fun W=>W.cell? ⟨ba,0,none⟩=some (.func (.func 49) #[] #[])/\W.cell? ⟨bm,0,none⟩=some (.pointer (some ⟨r,0,none⟩))) (go_keep) (first|(go_at_fn 49;refine qD (HAS.o _ ?_) ?_;(repeat (first|exact Below.refl _ _ | refine Below.drew ?_));rintro e w9⟨rfl,v0,v1,hb9⟩))
    all_goals
     go_wp2_with fail
     go_meet
     exact hb9
   case rest=>
    obtain⟨O4,s5,h4,hC4⟩:=hcut.out
    obtain⟨xp,_,_,_⟩:=h4.cells
    obtain⟨q0,q1,_,y0,yf,_,_,_⟩:=hC4.cells h4
    have Lp:=hC4.putGot h4 (SOf.nil _ _ _)
    have Ao:=qH (show ∀W,Below (wc.setCell ⟨gG,P,none⟩ (.slice none 0 0)).heap.size (wc.setCell ⟨gG,P,none⟩ (.slice none 0 0)) W->∃O',RefA NoG W D r O' RES.1/\KeptO O O' w W from fun W hW=>by
     obtain⟨O',k1,k2⟩:=Lp
     refine⟨O',?_,k2.trans (KeptO.of_below hW (fun _ _=>rfl))⟩
     rw[HR1.o,<- hsl]
     exact k1.below hW)
    simp only at y0
    rw[<- HBB.o.1]at y0
    clear hcut h4 hC4 Lp HAS xa xm n0 hsl
    go_upto_region 57 with fail
    go_region
    all_goals
     go_wp2_with fail
     (try simp only[Exit.inBlock,Exit.then])
     go_ret
     exact⟨by rw[HZ.o];rfl,Ao.o _ (by first|exact Below.refl _ _ | exact (Below.refl _ _).drew | exact P4)⟩
 by_cases hps:passes n=true
 .
  have hno:=am5 hps;have Gx:p.out.length=1:=by have:=HFP.o.olen;omega
  have h00:p.out[0]?=some []:=by obtain⟨b,hb⟩:∃b,p.out[0]?=some b:=⟨_,gEl qO⟩;rw[hb,HNO.o b (mGt hb)]
  obtain⟨gO,cO,_,eO,_,_,_,_,_,_,_,_⟩:=HS9.o.mem.outAt (j:=0) (b:=[]) HC.o.1.ps HC.o.1.sP (by rw[HC.o.1.out];exact h00);rw[HC.o.1.out]at eO;have HOV:=qH eO;rw[eO,Gx]at q2
  have HR1:=qH (show RES.1=M3.setP i ((p3.setOut 0 (through n (B.take (j3 B)))).setGot (B.drop (j3 B))) by
   rw[HRC.o]
   exact bB6 M3 i n q p3 hps (by rw[HC.o.1.out];exact HNO.o) (by rw[HC.o.1.out];exact h00) HGB.o)
  have HTR:=qH (show ∀W,Bq wr W->Reads W (.slice (some ⟨g3,o3,none⟩) ls c3) ls ((B.take (j3 B)).map U) from fun W hW=>by
   have h1:=(ap8 (HRB9.o.below hW) HBB.o.1 hlb (by have:=HBB.o;omega)).2.1
   rw[<- HCT.o.2]
   exact h1)
  have HAD:Hid (∀(W:World)(y:qU)(a8:Option Addr)(c8 L8:Nat),L8=y.length->Bq wr W->Reads W (.slice a8 L8 c8) L8 (y.map U)->L8<=225000000->Calls prog 49 #[.pointer (some ⟨gO,0,none⟩),.slice a8 L8 c8] W fun e w'=>e=.returned (.tuple #[])/\Hid (∃O4 s5,StepB w w' D r O O4 (d3.setProc i (p3.setOut 0 y) (s4.outSet 0 s5)) n ai ci i gP bp bn bm ba b4 mp gI/\CameA d (d3.setProc i (p3.setOut 0 y) (s4.outSet 0 s5)) M3 i q P IL (p3.setOut 0 y) (p3.setOut 0 y) (some ⟨g3,o3,none⟩,c3) (s4.outSet 0 s5) x3 B gG cG gP cP gX cX)):=(show ∀(W:World)(y:qU)(a8:Option Addr)(c8 L8:Nat),_ from fun W y a8 c8 L8 e hW hr hl=>by
   subst e
   refine qD (HC.o.1.addOut (HS9.o.below hW) h00 HOV.o hr hl) ?_
   rintro e w'⟨rfl,O4,s5,h2,h3⟩
   exact⟨rfl,O4,s5,h2,h3⟩)
  have HPG:Hid (∀(wx:World)(O4:qW)(s5:Sl),StepB w wx D r O O4 (d3.setProc i (p3.setOut 0 (through n (B.take (j3 B)))) (s4.outSet 0 s5)) n ai ci i gP bp bn bm ba b4 mp gI->CameA d (d3.setProc i (p3.setOut 0 (through n (B.take (j3 B)))) (s4.outSet 0 s5)) M3 i q P IL (p3.setOut 0 (through n (B.take (j3 B)))) (p3.setOut 0 (through n (B.take (j3 B)))) (some ⟨g3,o3,none⟩,c3) (s4.outSet 0 s5) x3 B gG cG gP cP gX cX->∀(s':Sl)(v:Value),s'=(some ⟨g3,o3+ls,none⟩,c3-ls)\/(s'=(some ⟨g3,o3,none⟩,0)/\ls=c3)->v=.slice s'.1 (BL-ls) s'.2->∀W,Below (wx.setCell ⟨gG,P,none⟩ v).heap.size (wx.setCell ⟨gG,P,none⟩ v) W->∃O',RefA NoG W D r O' RES.1/\KeptO O O' w W):=(show ∀(wx:World)(O4:qW)(s5:Sl),_ from fun wx O4 s5 h4 hC4 s' v hs' hv W hW=>by
   obtain⟨_,_,_,_,_,_,hSB,_⟩:=hC4.cells h4
   have hd:=SOf.drop hSB rfl (n:=ls) (by rw[<- HBB.o.1];exact hlb) s' hs'
   have e1:v=sl (B.drop ls) s':=by rw[hv];unfold sl;rw[qy,<- HBB.o.1]
   rw[e1]at hW
   obtain⟨O',k1,k2⟩:=hC4.putGot h4 hd
   refine⟨O',?_,k2.trans (KeptO.of_below hW (fun _ _=>rfl))⟩
   rw[HR1.o,<- HCT.o.2]
   rw[<- HCT.o.2]at k1
   exact k1.below hW)
  have HTL:=qH (show (through n (B.take (j3 B))).length<=225000000 by
   have h1:=aE8 hps (aJ9 B)
   rw[qX]at h1
   have:=HBB.o
   omega)
  rcases ae6 hps with⟨k4,k1⟩|⟨k3,k5⟩
  ·
   as_aux_lemma=>
    have hlc:ls<=c3:=qO
    have hlc':(ls:Int)<=(c3:Int):=qO
    have HTT:=qH (show through n (B.take (j3 B))=B.take (j3 B) by unfold through;rw[qF k4])
    have HAJ:=qH (show ∀W,Bq wr W->Calls prog 49 #[.pointer (some ⟨gO,0,none⟩),.slice (some ⟨g3,o3,none⟩) ls c3] W fun e w'=>e=.returned (.tuple #[])/\w'.cell? ⟨bp,0,none⟩=some (.pointer (some ⟨gP,i*5,none⟩))/\w'.cell? ⟨ba,0,none⟩=some (.func (.func 49) #[] #[])/\w'.cell? ⟨gP,i*5+2,none⟩=some (.slice (some ⟨gO,0,none⟩) 1 cO)/\Hid (∃O4 s5,StepB w w' D r O O4 (d3.setProc i (p3.setOut 0 (through n (B.take (j3 B)))) (s4.outSet 0 s5)) n ai ci i gP bp bn bm ba b4 mp gI/\CameA d (d3.setProc i (p3.setOut 0 (through n (B.take (j3 B)))) (s4.outSet 0 s5)) M3 i q P IL (p3.setOut 0 (through n (B.take (j3 B)))) (p3.setOut 0 (through n (B.take (j3 B)))) (some ⟨g3,o3,none⟩,c3) (s4.outSet 0 s5) x3 B gG cG gP cP gX cX) from fun W hW=>by
     have hll:ls=(B.take (j3 B)).length:=by rw[qX,<- HCT.o.2,<- HBB.o.1];omega
     refine qD (HAD.o W (B.take (j3 B)) _ _ ls hll hW (HTR.o W hW) (by have:=HBB.o;omega)) ?_
     rintro e w'⟨rfl,hh⟩
     obtain⟨O4,s5,h2,h3⟩:=hh.out
     obtain⟨z1,_,z3,_⟩:=h2.cells
     obtain⟨_,_,z4,_⟩:=h3.cells h2
     have e4:(s4.outSet 0 s5).ov=.slice (some ⟨gO,0,none⟩) 1 cO:=by rw[<- Gx];exact HOV.o
     rw[e4]at z4
     rw[HTT.o]
     exact⟨rfl,z1,z3,z4,O4,s5,h2,h3⟩)
    rw[k4]at n0
    rw[k1]at n5
    clear HFU q0 q1 y0 yf n1 n2 n3 n4 n6 n7 hk5 xm HAD HTR hno Gx h00 eO hps k4 k1
    go_upto_region 59 with fail
    go_cut [] (fun wx=>Hid (∃O4 s5,StepB w wx D r O O4 (d3.setProc i (p3.setOut 0 (through n (B.take (j3 B)))) (s4.outSet 0 s5)) n ai ci i gP bp bn bm ba b4 mp gI/\CameA d (d3.setProc i (p3.setOut 0 (through n (B.take (j3 B)))) (s4.outSet 0 s5)) M3 i q P IL (p3.setOut 0 (through n (B.take (j3 B)))) (p3.setOut 0 (through n (B.take (j3 B)))) (some ⟨g3,o3,none⟩,c3) (s4.outSet 0 s5) x3 B gG cG gP cP gX cX))
    case first=>
     go_region_held3 (fun W=>W.cell? ⟨bp,0,none⟩=some (.pointer (some ⟨gP,i*5,none⟩))/\W.cell? ⟨ba,0,none⟩=some (.func (.func 49) #[] #[])/\W.cell? ⟨gP,i*5+2,none⟩=some (.slice (some ⟨gO,0,none⟩) 1 cO)) (go_keep) (first|(go_at_fn 49;refine qD (HAJ.o _ ?_) ?_;(repeat (first|exact Below.refl _ _ | refine Below.drew ?_));rintro e w9⟨rfl,v0,v1,v2,hb9⟩))
     all_goals
      go_wp2_with fail
      go_meet
      exact hb9
    case rest=>
     obtain⟨O4,s5,h4,hC4⟩:=hcut.out
     obtain⟨xp,_,_,_⟩:=h4.cells
     obtain⟨q0,q1,_,y0,yf,_,_,_⟩:=hC4.cells h4
     have HE4:Hid _:=HPG.o wc O4 s5 h4 hC4
     simp only at y0
     rw[<- HBB.o.1]at y0
     clear hcut h4 hC4 HAJ HPG xa n0 n5 q2
     go_upto_region 60 with fail
     by_cases hcl:c3=ls
     . subst hcl
       obtain rfl:BL=c3:=qO
       go_region
       all_goals
        go_wp2_with fail
        (try simp only[Exit.inBlock,Exit.then])
        go_ret
        exact⟨by rw[HZ.o];rfl,HE4.o (some ⟨g3,o3,none⟩,0) _ (.inr ⟨rfl,by first|rfl | trivial⟩) (by rw[xt]) _ (by first|exact Below.refl _ _ | exact (Below.refl _ _).drew | exact P4)⟩
     . go_region
       all_goals
        go_wp2_with fail
        (try simp only[Exit.inBlock,Exit.then])
        go_ret
        exact⟨by rw[HZ.o];rfl,HE4.o (some ⟨g3,o3+ls,none⟩,c3-ls) _ (.inl rfl) rfl _ (by first|exact Below.refl _ _ | exact (Below.refl _ _).drew | exact P4)⟩
  ·
   as_aux_lemma=>
    have hlc:ls<=c3:=qO
    have hlc':(ls:Int)<=(c3:Int):=qO
    have hcc:=bj8 HNC.o k3
    have HIE:Hid _:=ax1 n.c wr
    unfold Cmd.v at HIE
    obtain⟨TK,hTK⟩:=qE (B.take (j3 B))
    have hTl:TK.length=ls:=by rw[hTK,qX,<- HCT.o.2,<- HBB.o.1];omega
    obtain⟨LS,hLS⟩:=qE (lines TK)
    obtain⟨MD,hMD⟩:=qE (made n.c LS)
    obtain⟨EL,hEL⟩:=qE ((ended MD).length)
    have HTT:=qH (show through n (B.take (j3 B))=ended MD by unfold through;rw[qB qO,hMD,hLS,hTK])
    have Xc:EL<=225000000:=by rw[hEL,<- HTT.o];exact HTL.o
    have hBl:=HBB.o.2.1
    have hLl:LS.length<=225000000:=by rw[hLS];have:=E6 TK;omega
    have hLb:∀x∈LS,x.length<=225000000:=fun x hx=>by
     have h1:=ao5 hx
     rw[hLS]at h1
     have:=E8 TK
     omega
    have Ft:=qH (show ∀W,Bq wr W->W.cell? ⟨bp,0,none⟩=some (.pointer (some ⟨gP,i*5,none⟩))/\W.cell? ⟨ba,0,none⟩=some (.func (.func 49) #[] #[])/\W.cell? ⟨gP,i*5+2,none⟩=some (.slice (some ⟨gO,0,none⟩) 1 cO)/\W.cell? ⟨bn,2,none⟩=some (.int .i64 n.c.kind)/\W.cell? ⟨bn,3,none⟩=some (.string ⟨n.c.word.toArray⟩)/\W.cell? ⟨bn,4,none⟩=some (.int .i64 n.c.n) from fun W hW=>by
     have h1:=HS9.o.below hW
     obtain⟨z1,_,z3,_⟩:=h1.cells
     obtain⟨_,_,z4,_⟩:=HC.o.1.cells h1
     rw[HOV.o,Gx]at z4
     obtain⟨_,_,m2,m3,m4,_,_,_⟩:=D8 h1.full.n.1
     exact⟨z1,z3,z4,m2,m3,m4⟩)
    have HED:=qH (show ∀W,Bq wr W->q8 W/\W.ShapedOpen prog from fun W hW=>HE.o W ((HS9.o.below hW).kept.below HD.o.1.lo HD.o.1.le))
    have HLO:=qH (show ∀W,Bq wr W->Calls prog 56 #[.slice (some ⟨g3,o3,none⟩) ls c3] W fun e w'=>∃r6,e=.returned r6/\w'.cell? ⟨bp,0,none⟩=some (.pointer (some ⟨gP,i*5,none⟩))/\w'.cell? ⟨ba,0,none⟩=some (.func (.func 49) #[] #[])/\w'.cell? ⟨gP,i*5+2,none⟩=some (.slice (some ⟨gO,0,none⟩) 1 cO)/\w'.cell? ⟨bn,2,none⟩=some (.int .i64 n.c.kind)/\w'.cell? ⟨bn,3,none⟩=some (.string ⟨n.c.word.toArray⟩)/\w'.cell? ⟨bn,4,none⟩=some (.int .i64 n.c.n)/\Hid (Reads w' r6 LS.length (LS.map S)/\Bq wr w') from fun W hW=>by
     have hr:=HTR.o W hW
     rw[<- hTK,<- hTl]at hr
     have h1:=aA4 _ TK W hr (HED.o W hW).2 qO
     rw[hTl]at h1
     refine qD h1 ?_
     rintro e w'⟨g,c,rfl,h2,h3⟩
     have hb:=hW.trans (h3.mono hW.size)
     obtain⟨z0,z1,z2,z3,z4,z5⟩:=Ft.o w' hb
     rw[hLS]
     exact⟨_,rfl,z0,z1,z2,z3,z4,z5,h2,hb⟩)
    have HMA:Hid (∀(W:World)(r6:Value),Hid (Reads W r6 LS.length (LS.map S)/\Bq wr W)->Calls prog 55 #[.agg #[.int .i64 n.c.kind,.string ⟨n.c.word.toArray⟩,.int .i64 n.c.n],r6] W fun e w'=>∃r7,e=.returned r7/\w'.cell? ⟨bp,0,none⟩=some (.pointer (some ⟨gP,i*5,none⟩))/\w'.cell? ⟨ba,0,none⟩=some (.func (.func 49) #[] #[])/\w'.cell? ⟨gP,i*5+2,none⟩=some (.slice (some ⟨gO,0,none⟩) 1 cO)/\w'.cell? ⟨bn,2,none⟩=some (.int .i64 n.c.kind)/\w'.cell? ⟨bn,3,none⟩=some (.string ⟨n.c.word.toArray⟩)/\w'.cell? ⟨bn,4,none⟩=some (.int .i64 n.c.n)/\Hid (Reads w' r7 MD.length (MD.map S)/\Bq wr w')):=(show ∀(W:World)(r6:Value),_ from fun W r6 hW=>by
     obtain⟨hr,hW⟩:=hW.out
     refine qD (aO1 n.c hcc r6 LS W hr hLl hLb (HED.o W hW).2 (HED.o W hW).1.1) ?_
     rintro e w'⟨r7,rfl,h2,h3⟩
     have hb:=hW.trans (h3.mono hW.size)
     obtain⟨z0,z1,z2,z3,z4,z5⟩:=Ft.o w' hb
     rw[hMD]
     exact⟨_,rfl,z0,z1,z2,z3,z4,z5,h2,hb⟩)
    have HBY:Hid (∀(W:World)(r7:Value),Hid (Reads W r7 MD.length (MD.map S)/\Bq wr W)->Calls prog 54 #[r7] W fun e w'=>∃a8 c8,e=.returned (.slice a8 EL c8)/\w'.cell? ⟨bp,0,none⟩=some (.pointer (some ⟨gP,i*5,none⟩))/\w'.cell? ⟨ba,0,none⟩=some (.func (.func 49) #[] #[])/\w'.cell? ⟨gP,i*5+2,none⟩=some (.slice (some ⟨gO,0,none⟩) 1 cO)/\w'.cell? ⟨bn,2,none⟩=some (.int .i64 n.c.kind)/\w'.cell? ⟨bn,3,none⟩=some (.string ⟨n.c.word.toArray⟩)/\w'.cell? ⟨bn,4,none⟩=some (.int .i64 n.c.n)/\Hid (Reads w' (.slice a8 EL c8) EL ((ended MD).map U)/\Bq wr w')):=(show ∀(W:World)(r7:Value),_ from fun W r7 hW=>by
     obtain⟨hr,hW⟩:=hW.out
     refine qD (aZ1 r7 MD W EL hEL hr (by rw[<- hEL];exact Xc)) ?_
     rintro e w'⟨a8,c8,rfl,h2,h3,_⟩
     have hb:=hW.trans (h3.out.mono hW.size)
     obtain⟨z0,z1,z2,z3,z4,z5⟩:=Ft.o w' hb
     have h4:=h2.out
     rw[<- hEL]at h4
     exact⟨_,_,rfl,z0,z1,z2,z3,z4,z5,h4,hb⟩)
    have HAE:Hid (∀(W:World)(a8:Option Addr)(c8:Nat),Hid (Reads W (.slice a8 EL c8) EL ((ended MD).map U)/\Bq wr W)->Calls prog 49 #[.pointer (some ⟨gO,0,none⟩),.slice a8 EL c8] W fun e w'=>e=.returned (.tuple #[])/\w'.cell? ⟨bp,0,none⟩=some (.pointer (some ⟨gP,i*5,none⟩))/\w'.cell? ⟨ba,0,none⟩=some (.func (.func 49) #[] #[])/\w'.cell? ⟨gP,i*5+2,none⟩=some (.slice (some ⟨gO,0,none⟩) 1 cO)/\w'.cell? ⟨bn,2,none⟩=some (.int .i64 n.c.kind)/\w'.cell? ⟨bn,3,none⟩=some (.string ⟨n.c.word.toArray⟩)/\w'.cell? ⟨bn,4,none⟩=some (.int .i64 n.c.n)/\Hid (∃O4 s5,StepB w w' D r O O4 (d3.setProc i (p3.setOut 0 (through n (B.take (j3 B)))) (s4.outSet 0 s5)) n ai ci i gP bp bn bm ba b4 mp gI/\CameA d (d3.setProc i (p3.setOut 0 (through n (B.take (j3 B)))) (s4.outSet 0 s5)) M3 i q P IL (p3.setOut 0 (through n (B.take (j3 B)))) (p3.setOut 0 (through n (B.take (j3 B)))) (some ⟨g3,o3,none⟩,c3) (s4.outSet 0 s5) x3 B gG cG gP cP gX cX)):=(show ∀(W:World)(a8:Option Addr)(c8:Nat),_ from fun W a8 c8 hW=>by
     obtain⟨hr,hW⟩:=hW.out
     refine qD (HAD.o W (ended MD) a8 c8 EL hEL hW hr Xc) ?_
     rintro e w'⟨rfl,hh⟩
     obtain⟨O4,s5,h2,h3⟩:=hh.out
     obtain⟨z1,_,z3,_⟩:=h2.cells
     obtain⟨_,_,z4,_⟩:=h3.cells h2
     have e4:(s4.outSet 0 s5).ov=.slice (some ⟨gO,0,none⟩) 1 cO:=by rw[<- Gx];exact HOV.o
     rw[e4]at z4
     obtain⟨_,_,m2,m3,m4,_,_,_⟩:=D8 h2.full.n.1
     rw[HTT.o]
     exact⟨rfl,z1,z3,z4,m2,m3,m4,O4,s5,h2,h3⟩)
    rw[k3]at n0
    rw[k5]at HIE
    clear HFU q0 q1 y0 yf n1 n5 n6 n7 hk5 xm HAD HTR hno Gx h00 eO hps k3 k5 hcc hTK hTl hLS hMD hEL Xc hBl hLl hLb HED xp xa q2
    have HLO2:Hid (∀W,Bq wr W->_):=HLO.o
    generalize n.c.kind=ck at *
    generalize n.c.n=cn at *
    generalize (⟨n.c.word.toArray⟩:ByteArray)=wx0 at *
    go_wp2_with fail
    refine qD HIE.o ?_
    rintro e w5⟨rfl,hb5⟩
    have HB5:=qH hb5
    obtain⟨z50,z51,z52,z53,z54,z55⟩:=Ft.o w5 hb5
    clear hb5 HIE n0 n2 n3 n4 Ft HLO
    go_upto_region 62 with fail
    go_cut [] (fun wx=>Hid (∃O4 s5,StepB w wx D r O O4 (d3.setProc i (p3.setOut 0 (through n (B.take (j3 B)))) (s4.outSet 0 s5)) n ai ci i gP bp bn bm ba b4 mp gI/\CameA d (d3.setProc i (p3.setOut 0 (through n (B.take (j3 B)))) (s4.outSet 0 s5)) M3 i q P IL (p3.setOut 0 (through n (B.take (j3 B)))) (p3.setOut 0 (through n (B.take (j3 B)))) (some ⟨g3,o3,none⟩,c3) (s4.outSet 0 s5) x3 B gG cG gP cP gX cX))
    case first=>
     go_region_held3 (fun W=>W.cell? ⟨bp,0,none⟩=some (.pointer (some ⟨gP,i*5,none⟩))/\W.cell? ⟨ba,0,none⟩=some (.func (.func 49) #[] #[])/\W.cell? ⟨gP,i*5+2,none⟩=some (.slice (some ⟨gO,0,none⟩) 1 cO)/\W.cell? ⟨bn,2,none⟩=some (.int .i64 ck)/\W.cell? ⟨bn,3,none⟩=some (.string wx0)/\W.cell? ⟨bn,4,none⟩=some (.int .i64 cn)) (go_keep) (first
      | (go_at_call 56;refine qD (HLO2.o _ ?_) ?_;(repeat (first|exact HB5.o | refine Below.drew ?_));rintro e w6⟨r6,rfl,z60,z61,z62,z63,z64,z65,h6⟩)
      | (go_at_call 55;refine qD (HMA.o _ _ h6) ?_;rintro e w7⟨r7,rfl,z70,z71,z72,z73,z74,z75,h7⟩)
      | (go_at_call 54;refine qD (HBY.o _ _ h7) ?_;rintro e w8⟨a8,c8,rfl,z80,z81,z82,z83,z84,z85,h8⟩)
      | (go_at_fn 49;refine qD (HAE.o _ _ _ h8) ?_;rintro e w9⟨rfl,z90,z91,z92,z93,z94,z95,h9⟩))
     all_goals
      go_wp2_with fail
      go_meet
      exact h9
    case rest=>
     obtain⟨O4,s5,h4,hC4⟩:=hcut.out
     obtain⟨xp,_,_,_⟩:=h4.cells
     obtain⟨q0,q1,_,y0,yf,_,_,_⟩:=hC4.cells h4
     have HE4:Hid _:=HPG.o wc O4 s5 h4 hC4
     simp only at y0
     rw[<- HBB.o.1]at y0
     clear hcut h4 hC4 HPG HLO2 HMA HBY HAE z50 z51 z52 z53 z54 z55
     go_upto_region 63 with fail
     by_cases hcl:c3=ls
     . subst hcl
       obtain rfl:BL=c3:=qO
       go_region
       all_goals
        go_wp2_with fail
        (try simp only[Exit.inBlock,Exit.then])
        go_ret
        exact⟨by rw[HZ.o];rfl,HE4.o (some ⟨g3,o3,none⟩,0) _ (.inr ⟨rfl,by first|rfl | trivial⟩) (by rw[xt]) _ (by first|exact Below.refl _ _ | exact (Below.refl _ _).drew | exact P4)⟩
     . go_region
       all_goals
        go_wp2_with fail
        (try simp only[Exit.inBlock,Exit.then])
        go_ret
        exact⟨by rw[HZ.o];rfl,HE4.o (some ⟨g3,o3+ls,none⟩,c3-ls) _ (.inl rfl) rfl _ (by first|exact Below.refl _ _ | exact (Below.refl _ _).drew | exact P4)⟩
 by_cases h9:n.kind=3/\n.c.kind=9/\n.c.n<=(B.count 10:Int)
 ·
  as_aux_lemma=>
   have HIE:Hid _:=ax1 n.c wr
   unfold Cmd.v at HIE
   obtain⟨k3,k9,kN⟩:=h9
   have kE:Q3 n.c.kind=false:=by rw[k9];rfl
   rw[kE]at HIE
   have HR1:=qH (show RES.1=(M3.setX q ⟨[],x3.room,x3.closed,true⟩).setP i (D2 n M3.fs p3) by
    rw[HRC.o,<- HC.o.2.1]
    exact bB7 M3 i n q p3 k3 k9 HGB.o kN)
   have kN':n.c.n<=(fd:Int):=by rw[HCT.o.1];exact kN
   have kN2:(n.c.n<=(fd:Int))=True:=eq_true kN'
   rw[k3]at n0
   rw[k9]at n2 HIE
   clear q0 q1 q2 y0 yf n1 n5 n6 n7 hk5 hps xp xm xa kE kN k3 k9
   generalize n.c.n=cn at *
   generalize (⟨n.c.word.toArray⟩:ByteArray)=wx0 at *
   go_wp2_with fail
   refine qD HIE.o ?_
   rintro e w5⟨rfl,hb5⟩
   have HS10:Hid (StepB w w5 D r O O3 d3 n ai ci i gP bp bn bm ba b4 mp gI):=HS9.o.below hb5
   have c:=fun(b j:Nat)(u:Value)(hu:wr.cell? ⟨b,j,none⟩=some u)=>qC hb5 hu
   have m0:=c _ _ _ n0
   have m2:=c _ _ _ n2
   have m3:=c _ _ _ n3
   have m4:=c _ _ _ n4
   obtain⟨_,_,_,x0,_,_,x3',hfX,hOX,hgX⟩:=HS10.o.mem.atX HC.o.1.vX HC.o.1.px
   obtain⟨d4,hS4,eM4,hp4,eP4,eV4⟩:=HC.o.1.shut HS10.o
   obtain⟨W6,hW6⟩:=qE ((w5.setCell ⟨gX,q*4,none⟩ (.slice none 0 0)).setCell ⟨gX,q*4+3,none⟩ (.bool true))
   rw[<- hW6]at hS4
   have HF9:Hid _:=HFU.o d4 O3 p3 W6 hS4 (by rw[eM4];have:=HC.o.1.ns;rw[HC.o.1.eM]at this;exact this) (by rw[eM4];have:=HC.o.1.fs;rw[HC.o.1.eM]at this;exact this) (by rw[eM4];have:=HC.o.1.pl;rw[HC.o.1.eM]at this;exact this) (by rw[eP4,HC.o.1.vP,HC.o.1.pl,HV.o.1]) (by rw[eV4,HC.o.1.vM,HD.o.2.1]) hp4 (by rw[HC.o.1.out]) (by rw[HC.o.1.glen,HIL.o.2]) HC.o.1.flat (fun b hb=>by rw[HC.o.1.out]at hb;rw[HNO.o b hb];simp)
   have HM4:=qH (show d4.M.setP i (D2 n d4.M.fs p3)=RES.1 by rw[HR1.o,eM4,bG2];rfl)
   have f0:=hfX (q*4)
   have f3:=hfX (q*4+3)
   unfold sl at x0
   clear hb5 HIE n0 n2 n3 n4 c hS4 eM4 hp4 eP4 eV4 hfX hOX HFU HS9 HR1
   generalize x3.b.length=X3 at *
   go_upto_region 66 with fail
   rw[<- hW6]
   clear hW6 x0 x3' f0 f3 m0 m2 m3 m4
   go_wp2_with (go_at_fn 50;refine qD HF9.o ?_;rintro e9 w9⟨rfl,hEN⟩)
   (try simp only[Exit.inBlock,Exit.then])
   go_ret
   rw[HM4.o]at hEN
   exact⟨by rw[HZ.o];rfl,hEN⟩
 ·
  as_aux_lemma=>
   have hpf:passes n=false:=by simpa using hps
   have HEN:=qH (show ∀W,Bq wr W->∃O',RefA NoG W D r O' RES.1/\KeptO O O' w W from fun W hW=>by
    have h1:=(HS9.o.below hW).done HC.o.1.vM
    have e:RES.1=d3.M:=by
     rw[HRC.o,HC.o.1.eM]
     exact bB8 M3 i n q p3 hk5 hpf HGB.o h9
    rw[e]
    exact h1)
   have HIE:Hid _:=ax1 n.c wr
   unfold Cmd.v at HIE
   have hc:fd=B.count 10:=HCT.o.1
   rw[<- hc]at h9
   have b5:(n.kind==5)=false:=by rw[qg];exact hk5
   have b5':decide (n.kind=5)=false:=qG hk5
   clear q0 q1 q2 y0 yf n1 n6 n7 hps xp xm xa HFU HS9 hc
   by_cases h4:n.kind=4
   .
    have h1:¬n.how=1:=fun e=>by
     unfold passes at hpf
     rw[h4,e]at hpf
     simp at hpf
    have b1:(n.how==1)=false:=by rw[qg];exact h1
    have b1':decide (n.how=1)=false:=qG h1
    rw[h4]at n0
    clear HIE h9 hpf h4 hk5 b5 b5'
    generalize n.how=hw at *
    go_wp2_with fail
    (try simp only[Exit.inBlock,Exit.then])
    go_ret
    exact⟨by rw[HZ.o];rfl,HEN.o _ (Below.refl _ _)⟩
   have b4':(n.kind==4)=false:=by rw[qg];exact h4
   have b4'':decide (n.kind=4)=false:=qG h4
   by_cases h3:n.kind=3
   .
    have kE:Q3 n.c.kind=false:=by
     unfold passes at hpf
     rw[h3]at hpf
     simpa using hpf
    rw[kE]at HIE
    rw[h3]at n0
    have h99:¬(n.c.kind=9/\n.c.n<=(fd:Int)):=fun e=>h9 ⟨h3,e.1,e.2⟩
    clear h9 hpf h4 hk5 b5 b5' b4' b4'' h3 kE n5
    generalize n.c.kind=ck at *
    generalize n.c.n=cn at *
    generalize (⟨n.c.word.toArray⟩:ByteArray)=wx0 at *
    go_wp2_with fail
    refine qD HIE.o ?_
    rintro e w5⟨rfl,hb5⟩
    have c:=fun(b j:Nat)(u:Value)(hu:wr.cell? ⟨b,j,none⟩=some u)=>qC hb5 hu
    have m0:=c _ _ _ n0
    have m2:=c _ _ _ n2
    have m3:=c _ _ _ n3
    have m4:=c _ _ _ n4
    have HE5:Hid _:=HEN.o w5 hb5
    clear hb5 HIE n0 n2 n3 n4 c HEN
    by_cases e9:ck=9
    .
     have hlt:¬cn<=(fd:Int):=fun e=>h99 ⟨e9,e⟩
     have Cf:decide (cn<=(fd:Int))=false:=qG hlt
     subst e9
     clear h99
     go_wp2_with fail
     (try simp only[Exit.inBlock,Exit.then])
     go_ret
     exact⟨by rw[HZ.o];rfl,HE5.o⟩
    . have b9:(ck==9)=false:=by rw[qg];exact e9
      have b9':decide (ck=9)=false:=qG e9
      clear h99
      go_wp2_with fail
      (try simp only[Exit.inBlock,Exit.then])
      go_ret
      exact⟨by rw[HZ.o];rfl,HE5.o⟩
   .
    have b3:(n.kind==3)=false:=by rw[qg];exact h3
    have b3':decide (n.kind=3)=false:=qG h3
    clear HIE h9 hpf
    generalize n.kind=nk at *
    go_wp2_with fail
    (try simp only[Exit.inBlock,Exit.then])
    go_ret
    exact⟨by rw[HZ.o];rfl,HEN.o _ (Below.refl _ _)⟩
end Go.Proofs.YtmejdflmcikkdaaGreatDoor
