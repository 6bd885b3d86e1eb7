/- Any line, and any script, is done, however wide, with whatever room, whoever is picked, as the reference says, errors too: for all files, scripts, lines, numbers and picks. -/
import Derived.SizedLaws
import Derived.Test.YtllgglolcgdehaaGreatDoorCards
import Derived.Test.YtllgglolcgdehaaGreatDoorTie
import Derived.ShutString
import Derived.ChangeOld
import Derived.Below
import Derived.Deep.DeepHandedRow
import Derived.Lib.LaidTab
import Derived.Lib.SmallJoins
import Derived.LaidSub
import Derived.MakeChecks
import Derived.Test.YtllgglolcgdehaaGreatDoorSa42
set_option maxRecDepth 100000
set_option maxHeartbeats 16000000
namespace Go.Proofs.YtllgglolcgdehaaGreatDoor.driverSays
open Go.ChangeShapes Go.WideShapes Go.ChangeAt Go.RowKit Go.Gs Go.Joins
open Go.ChangeMaps (open_string shut_string)
set_option linter.unusedVariables false
theorem own:ownKnob Tryz.prog.godebug=none:=by kernel_rfl
theorem laidOut:laidOutB Tryz.prog=true:=by kernel_rfl
theorem known(W:World)(hL:laidMetH Tryz.prog Rows.driverSaysRow.laid W)(hsh:W.ShapedOpen Tryz.prog):V2 W:=by
 refine⟨?_,?_⟩
 . obtain⟨m,hm⟩:=Tryz.laysM144.s1_3 W hsh;exact⟨m,hm⟩
 . have h:=laidMetH.filter (fun x=>x.1 == "internal/strconv.uint64pow10") hL;have e:Rows.driverSaysRow.laid.filter (fun x=>x.1 == "internal/strconv.uint64pow10")=[("internal/strconv.uint64pow10",Lib.tabData .u64 Lib.pow10Tab)]:=by kernel_rfl
   rw[e,Go.MakeChecks.laidMetH_plain _ _ _ rfl]at h;exact Lib.tabIs_of_head (g:=5) (t:=325) (by kernel_rfl) (by kernel_rfl) Tryz.underlying325 Tryz.underlying256 (by kernel_rfl) (by kernel_rfl) h
theorem int_bounds{z:Int}(h:(Lit.int .i64 z).wf=true):-9223372036854775808<=z/\z<=9223372036854775807:=by simpa[Lit.wf,IntKind.min,IntKind.max,IntKind.signed,IntKind.bits]using h
theorem cp1{name nm:String}{g:Nat}{d:DataW Unit}(W:World)(hg:Tryz.prog.globalNamed name=some g)(hty:(Tryz.prog.globals[g]?).map (·.type)=some 223)(h:laidMet Tryz.prog [(name,.iface nm d)] W):bb7 W g:=by
 obtain⟨ps,⟨g',t',cs,fuel,p,q,hg',ht',hvar,hd,_,_⟩,_⟩:=h;obtain rfl:=xO (hg.symm.trans hg');obtain rfl:=xO (hty.symm.trans ht');obtain⟨_,u,v,hcs,_,_⟩:=iface_of_trod Tryz.underlying223 hd;have h0:=World.var?_cell hg hvar 0;have h1:cs[0]? = some (.iface u v):=by rw[<- xk,hcs];rfl
 exact⟨.iface u v,h0.trans h1,.inr ⟨u,v,rfl⟩⟩
theorem cr2(W:World)(hL:laidMetH Tryz.prog Rows.driverSaysRow.laid W)(hsh:W.ShapedOpen Tryz.prog):D6 W:=by
 refine⟨known W hL hsh,?_,?_⟩
 . have h:=laidMetH.filter (fun x=>x.1 == "strconv.ErrSyntax") hL;have e:Rows.driverSaysRow.laid.filter (fun x=>x.1 == "strconv.ErrSyntax")=[("strconv.ErrSyntax",Rows.laid_strconv_ErrSyntax)]:=by kernel_rfl
   rw[e,Go.MakeChecks.laidMetH_plain _ _ _ rfl]at h;exact cp1 W (by kernel_rfl) (by kernel_rfl) h
 . have h:=laidMetH.filter (fun x=>x.1 == "strconv.ErrRange") hL;have e:Rows.driverSaysRow.laid.filter (fun x=>x.1 == "strconv.ErrRange")=[("strconv.ErrRange",Rows.laid_strconv_ErrRange)]:=by kernel_rfl
   rw[e,Go.MakeChecks.laidMetH_plain _ _ _ rfl]at h;exact cp1 W (by kernel_rfl) (by kernel_rfl) h
theorem bx3{H:Type}{enc:TypeId × Value->H}{P:Program}{w:World}{base:Nat}{spare:Nat->Bool}{held:Bool}{t t1 t2 t3 t4 t5:TypeId}{args:Array Value}{ds:List (DataW H)}{ps:List MemPlace}(h:DataW.TrodAll enc P w base spare held [t,t1,t2,t3,t4,t5] args.toList ds ps):
 ∃v v1 v2 v3 v4 v5 d d1 d2 d3 d4 d5 p p1 p2 p3 p4 p5,args=#[v,v1,v2,v3,v4,v5]/\ds=[d,d1,d2,d3,d4,d5]/\ps=p++p1++p2++p3++p4++p5/\DataW.Trod enc P w base spare held t v d p/\DataW.Trod enc P w base spare held t1 v1 d1 p1/\DataW.Trod enc P w base spare held t2 v2 d2 p2/\DataW.Trod enc P w base spare held t3 v3 d3 p3/\DataW.Trod enc P w base spare held t4 v4 d4 p4/\DataW.Trod enc P w base spare held t5 v5 d5 p5:=by obtain⟨v,vs,d,ds',p,q,hargs,rfl,rfl,hd,Ge⟩:=trodAll_cons h;obtain⟨v1,vs1,d1,ds1,p1,q1,rfl,rfl,rfl,hd1,Wl⟩:=trodAll_cons Ge;obtain⟨v2,vs2,d2,ds2,p2,q2,rfl,rfl,rfl,hd2,Wm⟩:=trodAll_cons Wl;obtain⟨v3,vs3,d3,ds3,p3,q3,rfl,rfl,rfl,hd3,Wn⟩:=trodAll_cons Wm;obtain⟨v4,vs4,d4,ds4,p4,q4,rfl,rfl,rfl,hd4,Wp⟩:=trodAll_cons Wn;obtain⟨v5,vs5,d5,ds5,p5,q5,rfl,rfl,rfl,hd5,Wq⟩:=trodAll_cons Wp;obtain⟨rfl,rfl,rfl⟩:=trodAll_nil Wq;exact⟨v,v1,v2,v3,v4,v5,d,d1,d2,d3,d4,d5,p,p1,p2,p3,p4,p5,by cases args;simp_all,rfl,by simp,hd,hd1,hd2,hd3,hd4,hd5⟩
theorem contract(H:Type)(enc:TypeId × Value->H)(W:World)(base:Nat)(args:Array Value)(ds gs:List (DataW H))(before:List MemPlace)
 (Ry:∀(j:Nat) t v,Tryz.f10.params[j]? = some t->args[j]? = some v->Value.okWide Tryz.prog W .any base t v)
 (hW:DataW.Whole enc Tryz.prog Tryz.f10.params.toList Rows.driverSaysSpec.vars false W args.toList ds gs before) (hsz:(DataW.weightsEach Tryz.prog (Tryz.f10.params.toList++(OpenSpec.ofChange Rows.driverSaysSpec).bare.plain.varTypes Tryz.prog) (ds++gs)).all (· <= reachBytes)=true) (hL:laidMetH Tryz.prog Rows.driverSaysRow.laid W) (hsh:W.ShapedOpen Tryz.prog):
 Calls Tryz.prog 10 args W fun e W'=>∃v,e=.returned v/\Rows.driverSaysSpec.post enc Tryz.prog Tryz.f10 false true false false W args v W':=by
 have hK:=cr2 W hL hsh;have Fa:=Ry;have hW':=hW;obtain⟨p,q,hA0,hV,rfl,hfz,hnd⟩:=hW;have hA:DataW.TrodAll enc Tryz.prog W 0 (fun _=>true) true Tryz.f10.params.toList args.toList ds p:=hA0;rw[Tryz.params10]at hA Fa hsz;obtain⟨v0,v1,v2,v3,v4,v5,d0,d1,d2,d3,d4,d5,p0,p1,p2,p3,p4,p5,hargs,rfl,rfl,h0,h1,h2,h3,h4,h5⟩:=bx3 hA;obtain rfl:args=#[v0,v1,v2,v3,v4,v5]:=by cases args;simp_all
 obtain⟨rfl,rfl⟩:=trodVars_none hV;have k0:=h0;have lt0:∀x∈p0,x.block<W.heap.size:=by obtain⟨m,hm⟩:=k0;exact DataW.trod_lt m _ _ _ hm
 obtain⟨a0,len0,cap0,rfl⟩:=okWide_slice Tryz.underlying25 (Fa 0 25 v0 rfl rfl);obtain⟨fs0,hln0,hl0,hf0,hz0⟩:∃fs:List SFile,len0=fs.length/\j6 W (.slice a0 len0 cap0) fs/\(∀f∈fs,M9 f)/\(a0=none->cap0=0):=by obtain⟨fuel,hf⟩:=h0;obtain⟨fs,e1,e2,e3⟩:=aV7 hf;obtain⟨_,_,e4,_,_⟩:=e1.shape;injection e4 with _ e4 _;exact⟨fs,e4,e1,e2,fun h=>e3 _ _ (by rw[h])⟩
 have k1:=h1;have lt1:∀x∈p1,x.block<W.heap.size:=by obtain⟨m,hm⟩:=k1;exact DataW.trod_lt m _ _ _ hm
 obtain⟨a1,len1,cap1,rfl⟩:=okWide_slice Tryz.underlying91 (Fa 1 91 v1 rfl rfl);obtain⟨ls1,hln1,hl1,hf1,hz1,hw1⟩:∃ls:List SLine,len1=ls.length/\I0 W (.slice a1 len1 cap1) ls/\(∀x∈ls,M3 x)/\(a1=none->cap1=0)/\∀x∈ls,WfL x:=by obtain⟨fuel,hf⟩:=h1;obtain⟨ls,e1,e2,e3⟩:=aT2 hf;obtain⟨_,_,e4,_,_⟩:=e1.shape;injection e4 with _ e4 _;exact⟨ls,e4,e1,e2,fun h=>e3 _ _ (by rw[h]),aT3 e1 hf⟩
 have k2:=h2;have lt2:∀x∈p2,x.block<W.heap.size:=by obtain⟨m,hm⟩:=k2;exact DataW.trod_lt m _ _ _ hm
 obtain⟨xl,lf,cf,ld,cd,rfl,hxf,hxd,hxl,hxz,hxw⟩:∃(x:SLine)(af:Option Addr)(cf:Nat)(ad:Option Addr)(cd:Nat),v2=.agg #[.slice af x.fr.length cf,.slice ad x.cs.length cd,.string ⟨x.tu.toArray⟩]/\Reads W (.slice af x.fr.length cf) x.fr.length (x.fr.map S)/\H9 W (.slice ad x.cs.length cd) x.cs/\M3 x/\(ad=none->cd=0)/\WfL x:=by obtain⟨c0,c1,c2,y0,y1,y2,m,e0,_,_,hy0,hy1,hy2⟩:=open_agg3 Tryz.underlying56 (by kernel_rfl) (by kernel_rfl) (Fa 2 56 v2 rfl rfl) h2;obtain⟨x,q1,q2,q3,q4,q5⟩:=aB5 hy0 hy1 hy2;obtain⟨af,cf,rfl,_,_⟩:=q2.shape;obtain⟨ad,cd,rfl,_,_⟩:=q3.shape;subst q1;exact⟨x,af,cf,ad,cd,e0,q2,q3,q4,fun h=>q5 _ _ (by rw[h]),aB6 q3 hy1⟩
 have k3:=h3;have lt3:∀x∈p3,x.block<W.heap.size:=by obtain⟨m,hm⟩:=k3;exact DataW.trod_lt m _ _ _ hm
 obtain⟨x3,e3,ed3,ep3,w3⟩:=open_int Tryz.underlying3 (Fa 3 3 v3 rfl rfl) h3;subst e3;have k4:=h4;have lt4:∀x∈p4,x.block<W.heap.size:=by obtain⟨m,hm⟩:=k4;exact DataW.trod_lt m _ _ _ hm
 obtain⟨x4,e4,ed4,ep4,w4⟩:=open_int Tryz.underlying3 (Fa 4 3 v4 rfl rfl) h4;subst e4;have k5:=h5;have lt5:∀x∈p5,x.block<W.heap.size:=by obtain⟨m,hm⟩:=k5;exact DataW.trod_lt m _ _ _ hm
 obtain⟨zs5,a5,cap5,rfl,hb5,hz5,hwz5⟩:∃(zs:List Int)(a:Option Addr)(cap:Nat),v5=.slice a zs.length cap/\Reads W (.slice a zs.length cap) zs.length (zs.map (Value.int .i64))/\(a=none->cap=0)/\∀z∈zs,(Lit.int .i64 z).wf=true:=by obtain⟨a,len,cap,rfl⟩:=okWide_slice Tryz.underlying45 (Fa 5 45 v5 rfl rfl);obtain⟨fuel,hfu⟩:=h5;exact bw9 Tryz.underlying45 Tryz.underlying3 (by kernel_rfl) hfu
 subst hln0;subst hln1;clear hA0 Ry;refine (aJ7 W hK hsh a0 cap0 fs0 hl0 hf0 hz0 a1 cap1 ls1 hl1 hf1 hz1 hw1 xl lf ld cf cd hxf hxd hxl hxz hxw x3 (int_bounds w3) x4 (int_bounds w4) a5 cap5 zs5 hb5 (fun z hz=>int_bounds (hwz5 z hz))).mono fun e W' ⟨he,bel⟩=>?_;subst he
 exact⟨_,rfl,_,_,_,[],_,[],hW',trodAll_mk1 (shut_bool Tryz.underlying4 _),(trodAll_cons_mk (Below.trod laidOut (by kernel_rfl) (qc (by kernel_rfl)) k0 bel lt0) (trodAll_cons_mk (Below.trod laidOut (by kernel_rfl) (qc (by kernel_rfl)) k1 bel lt1) (trodAll_cons_mk (Below.trod laidOut (by kernel_rfl) (qc (by kernel_rfl)) k2 bel lt2) (trodAll_cons_mk (Below.trod laidOut (by kernel_rfl) (qc (by kernel_rfl)) k3 bel lt3) (trodAll_cons_mk (Below.trod laidOut (by kernel_rfl) (qc (by kernel_rfl)) k4 bel lt4) (trodAll_cons_mk (Below.trod laidOut (by kernel_rfl) (qc (by kernel_rfl)) k5 bel lt5) trodAll_mk0)))))),rfl,bel.frame _,fun h=>by cases h⟩
def relay(cs:Array Value):Obj->Obj
 | .cells _ t frozen=>.cells cs t frozen
 | o=>o
def firstCells:Array Value:=(Go.Pinned.utf8FirstZ.map (fun(n:Nat)=>Value.int .u8 (n:Int))).toArray
def ax0:Array Value:=#[.int .u8 128,.int .u8 191,.int .u8 160,.int .u8 191,.int .u8 128,.int .u8 159,.int .u8 144,.int .u8 191,.int .u8 128,.int .u8 143,.int .u8 0,.int .u8 0,.int .u8 0,.int .u8 0,.int .u8 0,.int .u8 0,.int .u8 0,.int .u8 0,.int .u8 0,.int .u8 0,.int .u8 0,.int .u8 0,.int .u8 0,.int .u8 0,.int .u8 0,.int .u8 0,.int .u8 0,.int .u8 0,.int .u8 0,.int .u8 0,.int .u8 0,.int .u8 0]
def aT4:Array Value:=#[.int .u64 1,.int .u64 10,.int .u64 100,.int .u64 1000,.int .u64 10000,.int .u64 100000,.int .u64 1000000,.int .u64 10000000,.int .u64 100000000,.int .u64 1000000000,.int .u64 10000000000,.int .u64 100000000000,.int .u64 1000000000000,.int .u64 10000000000000,.int .u64 100000000000000,.int .u64 1000000000000000,.int .u64 10000000000000000,.int .u64 100000000000000000,.int .u64 1000000000000000000,.int .u64 10000000000000000000]
def cj4:Array Value:=#[.int .u8 0,.int .u8 1,.int .u8 28,.int .u8 2,.int .u8 29,.int .u8 14,.int .u8 24,.int .u8 3,.int .u8 30,.int .u8 22,.int .u8 20,.int .u8 15,.int .u8 25,.int .u8 17,.int .u8 4,.int .u8 8,.int .u8 31,.int .u8 27,.int .u8 13,.int .u8 23,.int .u8 21,.int .u8 19,.int .u8 16,.int .u8 7,.int .u8 26,.int .u8 12,.int .u8 18,.int .u8 6,.int .u8 11,.int .u8 5,.int .u8 10,.int .u8 9]
def cj5:Array Value:=#[.int .u8 0,.int .u8 1,.int .u8 56,.int .u8 2,.int .u8 57,.int .u8 49,.int .u8 28,.int .u8 3,.int .u8 61,.int .u8 58,.int .u8 42,.int .u8 50,.int .u8 38,.int .u8 29,.int .u8 17,.int .u8 4,.int .u8 62,.int .u8 47,.int .u8 59,.int .u8 36,.int .u8 45,.int .u8 43,.int .u8 51,.int .u8 22,.int .u8 53,.int .u8 39,.int .u8 33,.int .u8 30,.int .u8 24,.int .u8 18,.int .u8 12,.int .u8 5,.int .u8 63,.int .u8 55,.int .u8 48,.int .u8 27,.int .u8 60,.int .u8 41,.int .u8 37,.int .u8 16,.int .u8 46,.int .u8 35,.int .u8 44,.int .u8 21,.int .u8 52,.int .u8 32,.int .u8 23,.int .u8 11,.int .u8 54,.int .u8 26,.int .u8 40,.int .u8 15,.int .u8 34,.int .u8 20,.int .u8 31,.int .u8 10,.int .u8 25,.int .u8 14,.int .u8 19,.int .u8 9,.int .u8 13,.int .u8 8,.int .u8 7,.int .u8 6]
theorem laid_met(os:Os):laidMet Tryz.prog Rows.driverSaysRow.laid (({ World.holding Tryz.prog os ⟨#[],#[],[]⟩ with heap:=((((((((World.holding Tryz.prog os ⟨#[],#[],[]⟩).heap.modify 1 (relay firstCells)).modify 2 (relay ax0)).modify 5 (relay aT4)).modify 6 (relay cj4)).modify 7 (relay cj5)).modify 3 (relay #[.iface 333 (.pointer (some ⟨(World.holding Tryz.prog os ⟨#[],#[],[]⟩).heap.size,0,none⟩))])).modify 4 (relay #[.iface 333 (.pointer (some ⟨(World.holding Tryz.prog os ⟨#[],#[],[]⟩).heap.size+1,0,none⟩))])).push (.cells #[.string ⟨#[105,110,118,97,108,105,100,32,115,121,110,116,97,120]⟩] 335 (0,0)) |>.push (.cells #[.string ⟨#[118,97,108,117,101,32,111,117,116,32,111,102,32,114,97,110,103,101]⟩] 335 (0,0)) }:World).forCall (fun _ _=>0) ⟨#[],#[.slice none 0 0,.slice none 0 0,.agg #[.slice none 0 0,.slice none 0 0,.string ⟨#[]⟩],.int .i64 0,.int .i64 0,.slice none 0 0],[]⟩).memory:=
 laidMet_of_run' 8 (by kernel_rfl) (by kernel_rfl)
theorem reads(os:Os){H:Type}(enc:TypeId × Value->H):∃places,DataW.whole enc Tryz.prog (({ World.holding Tryz.prog os ⟨#[],#[],[]⟩ with heap:=((((((((World.holding Tryz.prog os ⟨#[],#[],[]⟩).heap.modify 1 (relay firstCells)).modify 2 (relay ax0)).modify 5 (relay aT4)).modify 6 (relay cj4)).modify 7 (relay cj5)).modify 3 (relay #[.iface 333 (.pointer (some ⟨(World.holding Tryz.prog os ⟨#[],#[],[]⟩).heap.size,0,none⟩))])).modify 4 (relay #[.iface 333 (.pointer (some ⟨(World.holding Tryz.prog os ⟨#[],#[],[]⟩).heap.size+1,0,none⟩))])).push (.cells #[.string ⟨#[105,110,118,97,108,105,100,32,115,121,110,116,97,120]⟩] 335 (0,0)) |>.push (.cells #[.string ⟨#[118,97,108,117,101,32,111,117,116,32,111,102,32,114,97,110,103,101]⟩] 335 (0,0)) }:World).forCall (fun _ _=>0) ⟨#[],#[.slice none 0 0,.slice none 0 0,.agg #[.slice none 0 0,.slice none 0 0,.string ⟨#[]⟩],.int .i64 0,.int .i64 0,.slice none 0 0],[]⟩).memory Tryz.f10.params.toList Rows.driverSaysSpec.vars false #[Value.slice none 0 0,.slice none 0 0,.agg #[.slice none 0 0,.slice none 0 0,.string ⟨#[]⟩],.int .i64 0,.int .i64 0,.slice none 0 0].toList 8=some ([.nil,.nil,.agg [.nil,.nil,.lit (.string [])],.lit (.int .i64 0),.lit (.int .i64 0),.nil],[],places):=
 ⟨[],by kernel_rfl⟩
theorem lifted(os:Os)(started:os.Started)(H:Type)(enc:TypeId × Value->H)(F':Stop.Interp):
 ReturnsInHanded {} Tryz.checked os 10 .any ((OpenSpec.ofChange Rows.driverSaysSpec).preRow enc Tryz.prog Tryz.f10 Rows.driverSaysRow.domain false Rows.driverSaysRow.laid) (((OpenSpec.ofChange Rows.driverSaysSpec).at F').post enc Tryz.prog Tryz.f10 false true false false):=by
 obtain⟨places,hx⟩:=reads os enc
 refine returnsInHanded_of_row (C:=Tryz.checked) (s:=OpenSpec.ofChange Rows.driverSaysSpec) own started (by kernel_rfl) Tryz.func10
  (witness_row_at (enc:=enc) (C:=Tryz.checked) false ({ World.holding Tryz.prog os ⟨#[],#[],[]⟩ with heap:=((((((((World.holding Tryz.prog os ⟨#[],#[],[]⟩).heap.modify 1 (relay firstCells)).modify 2 (relay ax0)).modify 5 (relay aT4)).modify 6 (relay cj4)).modify 7 (relay cj5)).modify 3 (relay #[.iface 333 (.pointer (some ⟨(World.holding Tryz.prog os ⟨#[],#[],[]⟩).heap.size,0,none⟩))])).modify 4 (relay #[.iface 333 (.pointer (some ⟨(World.holding Tryz.prog os ⟨#[],#[],[]⟩).heap.size+1,0,none⟩))])).push (.cells #[.string ⟨#[105,110,118,97,108,105,100,32,115,121,110,116,97,120]⟩] 335 (0,0)) |>.push (.cells #[.string ⟨#[118,97,108,117,101,32,111,117,116,32,111,102,32,114,97,110,103,101]⟩] 335 (0,0)) }:World) #[.slice none 0 0,.slice none 0 0,.agg #[.slice none 0 0,.slice none 0 0,.string ⟨#[]⟩],.int .i64 0,.int .i64 0,.slice none 0 0] rfl (by kernel_rfl) (by kernel_rfl) (by kernel_rfl)
   (OpenSpec.preRow_of_cond 8 hx (by kernel_rfl) (fun k hk=>by cases hk) (by kernel_rfl) (laid_met os))) ?_
 intro W base args ds gs before Fa hW _ _ hsz hL hsh _;exact contract H enc W base args ds gs before Fa hW hsz hL hsh
theorem closed:joinedFacts Tryz.pinned.checked.prog 10 Tryz.f10 (OpenSpec.ofChange Rows.driverSaysSpec).bare Rows.driverSaysRow=true:=by
 unfold joinedFacts;simp only[zA];repeat' apply And.intro
 all_goals (as_aux_lemma=>kernel_rfl)
theorem said:Rows.DriverSaysSaid:=
 OpenClaim.holds_of_cond 10 Tryz.f10 rfl rfl rfl rfl rfl rfl rfl ⟨rfl,rfl,rfl,rfl,rfl⟩ rfl rfl rfl rfl rfl (by as_aux_lemma=>kernel_rfl) Tryz.func10 closed
  (qc (by as_aux_lemma=>kernel_rfl)) (by unfold Func.isWrapper;first|(rw[qF (by decide +kernel)];kernel_rfl)|(rw[qA (by decide +kernel)];exact⟨rfl,rfl⟩))
  (fun os started H enc _ F'=>by rw[OpenClaim.pre_eq_preRow];exact lifted os started H enc F')
theorem plain(f:FuncId)(fn:Func)(hf:Tryz.pinned.checked.prog.funcNamed Rows.driverSaysRow.func=some f)(hfn:Tryz.pinned.checked.prog.funcs[f]? = some fn):
 true = Tryz.pinned.checked.prog.looks []/\∀(j:Nat) t,fn.params[j]? = some t -> Tryz.pinned.checked.prog.wantsStandIn t=false:=by
 obtain rfl:f = 10:=xO ((show Tryz.prog.funcNamed Rows.driverSaysRow.func=some 10 by kernel_rfl).symm.trans hf) |>.symm;obtain rfl:fn = Tryz.f10:=(xO (Tryz.func10.symm.trans hfn)).symm;refine⟨by kernel_rfl,fun j t ht=>?_⟩;rw[Tryz.params10]at ht;have hm:=Array.mem_of_getElem? ht;simp at hm;rcases hm with rfl | rfl | rfl | rfl | rfl
 . exact (show Tryz.prog.wantsStandIn 25 = false by kernel_rfl)
 . exact (show Tryz.prog.wantsStandIn 91 = false by kernel_rfl)
 . exact (show Tryz.prog.wantsStandIn 56 = false by kernel_rfl)
 . exact (show Tryz.prog.wantsStandIn 3 = false by kernel_rfl)
 . exact (show Tryz.prog.wantsStandIn 45 = false by kernel_rfl)
theorem card:Rows.DriverSaysCardSaid:=
 Claim7.holds_tied_plain_at .later [] _ _ _ _ said (fun _ h=>by cases h) (by kernel_rfl) (fun _ h=>by cases h) driverSays_row_tie rfl ⟨rfl,rfl⟩ (by kernel_rfl) rfl plain (by kernel_rfl)
#print axioms card
end Go.Proofs.YtllgglolcgdehaaGreatDoor.driverSays
