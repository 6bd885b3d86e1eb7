/- ExecRuns holds for every machine and every picks: they do in it, one after the other, what the document says, and so does finishing it, errors too. -/
import Derived.Test.YtmejdflmcikkdaaGreatDoorCards
import Derived.Test.YtmejdflmcikkdaaGreatDoorTie
import Derived.ShutString
import Derived.ChangeOld
import Derived.Below
import Derived.Deep.DeepHandedRow
import Derived.Lib.LaidTab
import Derived.LaidSub
import Derived.MakeChecks
import Derived.Test.YtmejdflmcikkdaaGreatDoorVb00
set_option maxRecDepth 100000
set_option maxHeartbeats 64000000
namespace Go.Proofs.YtmejdflmcikkdaaGreatDoor.execRuns
open Go.ChangeShapes Go.WideShapes Go.ChangeAt Go.RowKit Go.Gs Go.Joins
open Go.ChangeMaps (open_string shut_string)
set_option linter.unusedVariables false
theorem own:ownKnob Tryz.prog.godebug=none:=by kernel_rfl
theorem laidOut:laidOutB Tryz.prog=true:=by kernel_rfl
theorem known(W:World)(hL:laidMetH Tryz.prog Rows.execRunsRow.laid W)(hsh:W.ShapedOpen Tryz.prog):Q9 W:=by
 refine⟨?_,?_⟩
 . obtain⟨m,hm⟩:=Tryz.laysM144.s1_3 W hsh;exact⟨m,hm⟩
 . have h:=laidMetH.filter (fun x=>x.1 == "internal/strconv.uint64pow10") hL;have e:Rows.execRunsRow.laid.filter (fun x=>x.1 == "internal/strconv.uint64pow10")=[("internal/strconv.uint64pow10",Lib.tabData .u64 Lib.pow10Tab)]:=by kernel_rfl
   rw[e,Go.MakeChecks.laidMetH_plain _ _ _ rfl]at h;exact Lib.tabIs_of_head (g:=5) (t:=240) (by kernel_rfl) (by kernel_rfl) Tryz.underlying240 Tryz.underlying198 (by kernel_rfl) (by kernel_rfl) h
theorem int_bounds{z:Int}(h:(Lit.int .i64 z).wf=true):-9223372036854775808<=z/\z<=9223372036854775807:=by simpa[Lit.wf,IntKind.min,IntKind.max,IntKind.signed,IntKind.bits]using h
theorem bs9{name nm:String}{g:Nat}{d:DataW Unit}(W:World)(hg:Tryz.prog.globalNamed name=some g)(hty:(Tryz.prog.globals[g]?).map (·.type)=some 155)(h:laidMet Tryz.prog [(name,.iface nm d)] W):aN4 W g:=by
 obtain⟨ps,⟨g',t',cs,fuel,p,q,hg',ht',hvar,hd,_,_⟩,_⟩:=h;obtain rfl:=qd (hg.symm.trans hg');obtain rfl:=qd (hty.symm.trans ht');obtain⟨_,u,v,hcs,_,_⟩:=iface_of_trod Tryz.underlying155 hd;have h0:=World.var?_cell hg hvar 0;have h1:cs[0]? = some (.iface u v):=by rw[<- xH,hcs];rfl
 exact⟨.iface u v,h0.trans h1,.inr ⟨u,v,rfl⟩⟩
theorem bD3(W:World)(hL:laidMetH Tryz.prog Rows.execRunsRow.laid W)(hsh:W.ShapedOpen Tryz.prog):q8 W:=by
 refine⟨known W hL hsh,?_,?_⟩
 . have h:=laidMetH.filter (fun x=>x.1 == "strconv.ErrSyntax") hL;have e:Rows.execRunsRow.laid.filter (fun x=>x.1 == "strconv.ErrSyntax")=[("strconv.ErrSyntax",Rows.laid_strconv_ErrSyntax)]:=by kernel_rfl
   rw[e,Go.MakeChecks.laidMetH_plain _ _ _ rfl]at h;exact bs9 W (by kernel_rfl) (by kernel_rfl) h
 . have h:=laidMetH.filter (fun x=>x.1 == "strconv.ErrRange") hL;have e:Rows.execRunsRow.laid.filter (fun x=>x.1 == "strconv.ErrRange")=[("strconv.ErrRange",Rows.laid_strconv_ErrRange)]:=by kernel_rfl
   rw[e,Go.MakeChecks.laidMetH_plain _ _ _ rfl]at h;exact bs9 W (by kernel_rfl) (by kernel_rfl) h
theorem contract(H:Type)(enc:TypeId × Value->H)(W:World)(base:Nat)(args:Array Value)(ds gs:List (DataW H))(before:List MemPlace)
 (Jl:∀(j:Nat) t v,Tryz.f4.params[j]? = some t->args[j]? = some v->Value.okWide Tryz.prog W .any base t v)
 (hW:DataW.Whole enc Tryz.prog Tryz.f4.params.toList Rows.execRunsSpec.vars false W args.toList ds gs before) (hsz:(DataW.weightsEach Tryz.prog (Tryz.f4.params.toList++(OpenSpec.ofChange Rows.execRunsSpec).bare.plain.varTypes Tryz.prog) (ds++gs)).all (· <= reachBytes)=true) (hL:laidMetH Tryz.prog Rows.execRunsRow.laid W) (hsh:W.ShapedOpen Tryz.prog):
 Calls Tryz.prog 4 args W fun e W'=>∃v,e=.returned v/\Rows.execRunsSpec.post enc Tryz.prog Tryz.f4 false true false false W args v W':=by
 have hK:=bD3 W hL hsh;have Du:=Jl;have hW':=hW;obtain⟨p,q,hA0,hV,rfl,hfz,hnd⟩:=hW;have hA:DataW.TrodAll enc Tryz.prog W 0 (fun _=>true) true Tryz.f4.params.toList args.toList ds p:=hA0;rw[Tryz.params4]at hA Du hsz;obtain⟨v0,v1,d0,d1,p0,p1,Uo,rfl,rfl,h0,h1⟩:=trodAll_two hA;obtain rfl:args=#[v0,v1]:=by cases args;simp_all
 obtain⟨rfl,rfl⟩:=trodVars_none hV;have k0:=h0;have lt0:∀x∈p0,x.block<W.heap.size:=by obtain⟨m,hm⟩:=k0;exact DataW.trod_lt m _ _ _ hm
 obtain⟨MM0,an0,af0,ax0,ap0,aS0,cn0,cf0,cx0,cp0,cs0,rfl,hl0,hf0,hk0,hs0⟩:=av3 (Du 0 30 v0 rfl rfl) h0 (aZ9 (j:=0) hsz rfl rfl);have k1:=h1;have lt1:∀x∈p1,x.block<W.heap.size:=by obtain⟨m,hm⟩:=k1;exact DataW.trod_lt m _ _ _ hm
 obtain⟨zs1,a1,cap1,rfl,hb1,hz1,hwz1⟩:∃(zs:List Int)(a:Option Addr)(cap:Nat),v1=.slice a zs.length cap/\Reads W (.slice a zs.length cap) zs.length (zs.map (Value.int .i64))/\(a=none->cap=0)/\∀z∈zs,(Lit.int .i64 z).wf=true:=by obtain⟨a,len,cap,rfl⟩:=okWide_slice Tryz.underlying45 (Du 1 45 v1 rfl rfl);obtain⟨fuel,hfu⟩:=h1;exact aG4 Tryz.underlying45 Tryz.underlying3 (by kernel_rfl) hfu
 clear hA0 Jl;refine (aU0 W hK hsh an0 af0 ax0 ap0 aS0 cn0 cf0 cx0 cp0 cs0 MM0 hl0 hf0 hk0 hs0 a1 cap1 zs1 hb1 (fun z hz=>int_bounds (hwz1 z hz))).mono fun e W' ⟨he,bel⟩=>?_;subst he;exact⟨_,rfl,_,_,_,[],_,[],hW',trodAll_mk1 (shut_bool Tryz.underlying4 _),(trodAll_cons_mk (Below.trod laidOut (by kernel_rfl) (qp (by kernel_rfl)) k0 bel lt0) (trodAll_cons_mk (Below.trod laidOut (by kernel_rfl) (qp (by kernel_rfl)) k1 bel lt1) trodAll_mk0)),rfl,bel.frame _,fun h=>by cases h⟩
def relay(cs:Array Value):Obj->Obj
 | .cells _ t frozen=>.cells cs t frozen
 | o=>o
def firstCells:Array Value:=(Go.Pinned.utf8FirstZ.map (fun(n:Nat)=>Value.int .u8 (n:Int))).toArray
def U6:Array Value:=#[.int .u8 128,.int .u8 191,.int .u8 160,.int .u8 191,.int .u8 128,.int .u8 159,.int .u8 144,.int .u8 191,.int .u8 128,.int .u8 143,.int .u8 0,.int .u8 0,.int .u8 0,.int .u8 0,.int .u8 0,.int .u8 0,.int .u8 0,.int .u8 0,.int .u8 0,.int .u8 0,.int .u8 0,.int .u8 0,.int .u8 0,.int .u8 0,.int .u8 0,.int .u8 0,.int .u8 0,.int .u8 0,.int .u8 0,.int .u8 0,.int .u8 0,.int .u8 0]
def ae0:Array Value:=#[.int .u64 1,.int .u64 10,.int .u64 100,.int .u64 1000,.int .u64 10000,.int .u64 100000,.int .u64 1000000,.int .u64 10000000,.int .u64 100000000,.int .u64 1000000000,.int .u64 10000000000,.int .u64 100000000000,.int .u64 1000000000000,.int .u64 10000000000000,.int .u64 100000000000000,.int .u64 1000000000000000,.int .u64 10000000000000000,.int .u64 100000000000000000,.int .u64 1000000000000000000,.int .u64 10000000000000000000]
def aR5:Array Value:=#[.int .u8 0,.int .u8 1,.int .u8 28,.int .u8 2,.int .u8 29,.int .u8 14,.int .u8 24,.int .u8 3,.int .u8 30,.int .u8 22,.int .u8 20,.int .u8 15,.int .u8 25,.int .u8 17,.int .u8 4,.int .u8 8,.int .u8 31,.int .u8 27,.int .u8 13,.int .u8 23,.int .u8 21,.int .u8 19,.int .u8 16,.int .u8 7,.int .u8 26,.int .u8 12,.int .u8 18,.int .u8 6,.int .u8 11,.int .u8 5,.int .u8 10,.int .u8 9]
def aR6:Array Value:=#[.int .u8 0,.int .u8 1,.int .u8 56,.int .u8 2,.int .u8 57,.int .u8 49,.int .u8 28,.int .u8 3,.int .u8 61,.int .u8 58,.int .u8 42,.int .u8 50,.int .u8 38,.int .u8 29,.int .u8 17,.int .u8 4,.int .u8 62,.int .u8 47,.int .u8 59,.int .u8 36,.int .u8 45,.int .u8 43,.int .u8 51,.int .u8 22,.int .u8 53,.int .u8 39,.int .u8 33,.int .u8 30,.int .u8 24,.int .u8 18,.int .u8 12,.int .u8 5,.int .u8 63,.int .u8 55,.int .u8 48,.int .u8 27,.int .u8 60,.int .u8 41,.int .u8 37,.int .u8 16,.int .u8 46,.int .u8 35,.int .u8 44,.int .u8 21,.int .u8 52,.int .u8 32,.int .u8 23,.int .u8 11,.int .u8 54,.int .u8 26,.int .u8 40,.int .u8 15,.int .u8 34,.int .u8 20,.int .u8 31,.int .u8 10,.int .u8 25,.int .u8 14,.int .u8 19,.int .u8 9,.int .u8 13,.int .u8 8,.int .u8 7,.int .u8 6]
theorem laid_met(os:Os):laidMet Tryz.prog Rows.execRunsRow.laid (({ World.holding Tryz.prog os ⟨#[],#[],[]⟩ with heap:=((((((((World.holding Tryz.prog os ⟨#[],#[],[]⟩).heap.modify 1 (relay firstCells)).modify 2 (relay U6)).modify 5 (relay ae0)).modify 6 (relay aR5)).modify 7 (relay aR6)).modify 3 (relay #[.iface 257 (.pointer (some ⟨(World.holding Tryz.prog os ⟨#[],#[],[]⟩).heap.size,0,none⟩))])).modify 4 (relay #[.iface 257 (.pointer (some ⟨(World.holding Tryz.prog os ⟨#[],#[],[]⟩).heap.size+1,0,none⟩))])).push (.cells #[.string ⟨#[105,110,118,97,108,105,100,32,115,121,110,116,97,120]⟩] 259 (0,0)) |>.push (.cells #[.string ⟨#[118,97,108,117,101,32,111,117,116,32,111,102,32,114,97,110,103,101]⟩] 259 (0,0)) }:World).forCall (fun _ _=>0) ⟨#[],#[.agg #[.slice none 0 0,.slice none 0 0,.slice none 0 0,.slice none 0 0,.slice none 0 0],.slice none 0 0],[]⟩).memory:=
 laidMet_of_run' 8 (by kernel_rfl) (by kernel_rfl)
theorem reads(os:Os){H:Type}(enc:TypeId × Value->H):∃places,DataW.whole enc Tryz.prog (({ World.holding Tryz.prog os ⟨#[],#[],[]⟩ with heap:=((((((((World.holding Tryz.prog os ⟨#[],#[],[]⟩).heap.modify 1 (relay firstCells)).modify 2 (relay U6)).modify 5 (relay ae0)).modify 6 (relay aR5)).modify 7 (relay aR6)).modify 3 (relay #[.iface 257 (.pointer (some ⟨(World.holding Tryz.prog os ⟨#[],#[],[]⟩).heap.size,0,none⟩))])).modify 4 (relay #[.iface 257 (.pointer (some ⟨(World.holding Tryz.prog os ⟨#[],#[],[]⟩).heap.size+1,0,none⟩))])).push (.cells #[.string ⟨#[105,110,118,97,108,105,100,32,115,121,110,116,97,120]⟩] 259 (0,0)) |>.push (.cells #[.string ⟨#[118,97,108,117,101,32,111,117,116,32,111,102,32,114,97,110,103,101]⟩] 259 (0,0)) }:World).forCall (fun _ _=>0) ⟨#[],#[.agg #[.slice none 0 0,.slice none 0 0,.slice none 0 0,.slice none 0 0,.slice none 0 0],.slice none 0 0],[]⟩).memory Tryz.f4.params.toList Rows.execRunsSpec.vars false #[Value.agg #[.slice none 0 0,.slice none 0 0,.slice none 0 0,.slice none 0 0,.slice none 0 0],.slice none 0 0].toList 8=some ([.agg [.agg [.nil],.nil,.nil,.nil,.nil],.nil],[],places):=
 ⟨[],by kernel_rfl⟩
theorem lifted(os:Os)(started:os.Started)(H:Type)(enc:TypeId × Value->H)(F':Stop.Interp):
 ReturnsInHanded {} Tryz.checked os 4 .any ((OpenSpec.ofChange Rows.execRunsSpec).preRow enc Tryz.prog Tryz.f4 Rows.execRunsRow.domain false Rows.execRunsRow.laid) (((OpenSpec.ofChange Rows.execRunsSpec).at F').post enc Tryz.prog Tryz.f4 false true false false):=by
 obtain⟨places,hx⟩:=reads os enc
 refine returnsInHanded_of_row (C:=Tryz.checked) (s:=OpenSpec.ofChange Rows.execRunsSpec) own started (by kernel_rfl) Tryz.func4
  (witness_row_at (enc:=enc) (C:=Tryz.checked) false ({ World.holding Tryz.prog os ⟨#[],#[],[]⟩ with heap:=((((((((World.holding Tryz.prog os ⟨#[],#[],[]⟩).heap.modify 1 (relay firstCells)).modify 2 (relay U6)).modify 5 (relay ae0)).modify 6 (relay aR5)).modify 7 (relay aR6)).modify 3 (relay #[.iface 257 (.pointer (some ⟨(World.holding Tryz.prog os ⟨#[],#[],[]⟩).heap.size,0,none⟩))])).modify 4 (relay #[.iface 257 (.pointer (some ⟨(World.holding Tryz.prog os ⟨#[],#[],[]⟩).heap.size+1,0,none⟩))])).push (.cells #[.string ⟨#[105,110,118,97,108,105,100,32,115,121,110,116,97,120]⟩] 259 (0,0)) |>.push (.cells #[.string ⟨#[118,97,108,117,101,32,111,117,116,32,111,102,32,114,97,110,103,101]⟩] 259 (0,0)) }:World) #[.agg #[.slice none 0 0,.slice none 0 0,.slice none 0 0,.slice none 0 0,.slice none 0 0],.slice none 0 0] rfl (by kernel_rfl) (by kernel_rfl) (by kernel_rfl)
   (OpenSpec.preRow_of_cond 8 hx (by kernel_rfl) (fun k hk=>by cases hk) (by kernel_rfl) (laid_met os))) ?_
 intro W base args ds gs before Du hW _ _ hsz hL hsh _;exact contract H enc W base args ds gs before Du hW hsz hL hsh
theorem closed:joinedFacts Tryz.pinned.checked.prog 4 Tryz.f4 (OpenSpec.ofChange Rows.execRunsSpec).bare Rows.execRunsRow=true:=by
 unfold joinedFacts;simp only[zX];repeat' apply And.intro
 all_goals (as_aux_lemma=>kernel_rfl)
theorem said:Rows.ExecRunsSaid:=
 OpenClaim.holds_of_cond 4 Tryz.f4 rfl rfl rfl rfl rfl rfl rfl ⟨rfl,rfl,rfl,rfl,rfl⟩ rfl rfl rfl rfl rfl (by as_aux_lemma=>kernel_rfl) Tryz.func4 closed
  (qp (by as_aux_lemma=>kernel_rfl)) (by unfold Func.isWrapper;first|(rw[qF (by decide +kernel)];kernel_rfl)|(rw[qB (by decide +kernel)];exact⟨rfl,rfl⟩))
  (fun os started H enc _ F'=>by rw[OpenClaim.pre_eq_preRow];exact lifted os started H enc F')
theorem plain(f:FuncId)(fn:Func)(hf:Tryz.pinned.checked.prog.funcNamed Rows.execRunsRow.func=some f)(hfn:Tryz.pinned.checked.prog.funcs[f]? = some fn):
 true = Tryz.pinned.checked.prog.looks []/\∀(j:Nat) t,fn.params[j]? = some t -> Tryz.pinned.checked.prog.wantsStandIn t=false:=by
 obtain rfl:f = 4:=qd ((show Tryz.prog.funcNamed Rows.execRunsRow.func=some 4 by kernel_rfl).symm.trans hf) |>.symm;obtain rfl:fn = Tryz.f4:=(qd (Tryz.func4.symm.trans hfn)).symm;refine⟨by kernel_rfl,fun j t ht=>?_⟩;rw[Tryz.params4]at ht;have hm:=Array.mem_of_getElem? ht;simp at hm;rcases hm with rfl | rfl
 . exact (show Tryz.prog.wantsStandIn 30 = false by kernel_rfl)
 . exact (show Tryz.prog.wantsStandIn 45 = false by kernel_rfl)
theorem card:Rows.ExecRunsCardSaid:=
 Claim7.holds_tied_plain_at .later [] _ _ _ _ said (fun _ h=>by cases h) (by kernel_rfl) (fun _ h=>by cases h) execRuns_row_tie rfl ⟨rfl,rfl⟩ (by kernel_rfl) rfl plain (by kernel_rfl)
#print axioms card
end Go.Proofs.YtmejdflmcikkdaaGreatDoor.execRuns
