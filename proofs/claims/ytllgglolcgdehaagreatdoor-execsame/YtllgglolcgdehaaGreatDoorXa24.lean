/- What the developers' Made (of graphs) does, and more. -/
import Derived.Lib.SlFresh
import Derived.Test.YtllgglolcgdehaaGreatDoorXa23
import Derived.Test.YtllgglolcgdehaaGreatDoorXa22
set_option maxRecDepth 100000
set_option maxHeartbeats 16000000
namespace Go.Proofs.YtllgglolcgdehaaGreatDoor
open Go.RowKit Go.Gs
set_option linter.unusedVariables false
theorem box8E {w w':World} {a b c d e f g h:Value} {t:TypeId} (hb:Below (w.alloc (.cells #[a,b,c,d,e,f,g,h] t)).heap.size (w.alloc (.cells #[a,b,c,d,e,f,g,h] t)) w') :
 w'.heap[w.heap.size]? = some (.cells #[a,b,c,d,e,f,g,h] t (0,0)):=(hb.block _ (by simp)).trans (heap_alloc_new w _)
theorem cells8E {w:World} {k:Nat} {a b c d e f g h:Value} {t:TypeId} (hx:w.heap[k]? = some (.cells #[a,b,c,d,e,f,g,h] t (0,0))) :
 w.cell? ⟨k,0,none⟩=some a/\w.cell? ⟨k,1,none⟩=some b/\w.cell? ⟨k,2,none⟩=some c/\w.cell? ⟨k,3,none⟩=some d/\w.cell? ⟨k,4,none⟩=some e/\w.cell? ⟨k,5,none⟩=some f/\w.cell? ⟨k,6,none⟩=some g/\w.cell? ⟨k,7,none⟩=some h:=by
 refine⟨?_,?_,?_,?_,?_,?_,?_,?_⟩
 all_goals
  rw[cell_of_row _ _ _ _ _ _ hx]
  rfl
theorem MadeEnd.from {w w1 w':World} {o:List (List UInt8)} {e:Ending} (h:MadeEnd w1 o e w') (hb:Below w.heap.size w w1):MadeEnd w o e w':=by
 obtain⟨ar,cr,us,h1,h2,h3,h4⟩:=h
 exact⟨ar,cr,us,h1,owns_mono h2 hb.size,fun j b hj=>by obtain⟨u,a1,a2,a3⟩:=h3 j b hj;exact⟨u,a1,a2,a3.mono hb.size⟩,hb.trans (h4.mono hb.size)⟩
theorem madeE_is (n:SNode) (ai ao:Option Addr) (ci cap:Nat) (fs:List SFile) (v:Value) (ins:List (List UInt8)) (w:World) (hchk:nodeChk n=0) (hfit:FitsN n) (hv:RList w v U ins) (hi:ins.length=n.ins.length) (hT:ins.flatten.length<=241200) (hf:RFiles w (.slice ao fs.length cap) fs) (hfc:fchk fs=0) (hE:KnownE w) :
 Calls Tryz.prog 167 #[nodeV n ai n.ins.length ci,.slice ao fs.length cap,v] w fun e w'=>MadeEnd w (nodeMade n fs ins) e w':=by
 have hl5:=(right_ins hchk).1
 have HC:Hid _:=fun (W:World)=>checkNode_is n ai ci W hfit (by omega)
 have HM:Hid _:=fun (W:World) (hW:Below w.heap.size w W)=>made_is n ai ao ci cap fs v ins W hchk hfit (hv.below hW) hi hT (hf.below hW) hfc (hE.below hW)
 obtain⟨av,cv,rfl,hv1,hv2⟩:=hv.shape
 rw[hchk] at HC
 obtain⟨G,hG⟩:∃G,G=nodeMade n fs ins:=⟨_,rfl⟩
 rw[<- hG] at HM ⊢
 rw[hi] at HM ⊢
 unfold nodeV at *
 generalize (⟨n.file.toArray⟩:ByteArray)=fx at *
 generalize (⟨n.c.word.toArray⟩:ByteArray)=wx0 at *
 generalize n.c.kind=ck at *
 generalize n.c.n=cn' at *
 generalize n.how=hw at *
 generalize n.wide=wd at *
 generalize n.kind=nk at *
 generalize n.ins.length=IL at *
 generalize fs.length=NF at *
 clear hG hv hf hE hfit hchk hv1 hv2 hfc hT hi
 go_enter Tryz.func167,Tryz.ntmps167
 go_wp2_with fail
 refine Calls.mono (HC.out _) ?_
 rintro e w1 ⟨rfl,hb1⟩
 obtain⟨c0,c1,c2,c3,c4,c5,c6,c7⟩:=cells8E (box8E hb1)
 have HB1:Hid (Below w.heap.size w w1):=boxE.trans (hb1.mono boxE.size)
 clear hb1 HC
 go_wp2_with fail
 refine Calls.mono (HM.out w1 HB1.out) ?_
 rintro e w2 hM2
 have hM3:=MadeEnd.from hM2 HB1.out
 obtain⟨ar,cr,us,rfl,m1,m2,m3⟩:=hM3
 have HX:Hid (MadeEnd w G (.returned (.tuple #[.slice ar G.length cr,.int .i64 0])) w2):=⟨ar,cr,us,rfl,m1,m2,m3⟩
 clear hM2 m1 m2 m3 HM
 go_wp2_with fail
 go_ret2
 exact HX.out
theorem nums_at {w:World} {a:Option Addr} {cap:Nat} {bs:List UInt8} (hr:Reads w (.slice a bs.length cap) bs.length (bs.map U)) (h0:bs≠[]):∃ad,a=some ad/\(Lib.numsL bs).length=bs.length /\ ∀i,i<bs.length->w.cell? (ad.add i)=some (.int .u8 ((Lib.numsL bs).getD i 0)):=by
 obtain⟨h1,ao,c,e,h2,h3,h4⟩:=hr
 injection e with e1 e2 e3
 subst e1 e3
 obtain⟨b,off,rfl,hc⟩:=h4 (fun e=>h0 (List.length_eq_zero_iff.1 e))
 refine⟨_,rfl,by simp[Lib.numsL],fun i hi=>?_⟩
 rw[addP,hc i (U bs[i]) (by rw[List.getElem?_map,gEl hi];rfl)]
 simp[U,Lib.numsL,hi]
theorem indexFeed_is (a:Option Addr) (cap:Nat) (bs:List UInt8) (w:World) (hr:Reads w (.slice a bs.length cap) bs.length (bs.map U)) (h0:bs≠[]) :
 Calls Tryz.prog 234 #[.slice a bs.length cap,.int .u8 10] w fun e w'=>∃z,e=.returned (.int .i64 z)/\(0<=z ↔ (10:UInt8)∈bs)/\w'=w:=by
 obtain⟨ad,rfl,h1,h2⟩:=nums_at hr h0
 refine (Tryz.bytes_IndexByte_at ad bs.length cap (Lib.numsL bs) 10 w h1 h2).mono ?_
 rintro e w' ⟨rfl,rfl⟩
 refine⟨_,rfl,?_,rfl⟩
 rw[Lib.bytesOf_numsL]
 exact indexByte_feed bs
theorem countFeed_is (a:Option Addr) (cap b2 o2 d:Nat) (bs:List UInt8) (w:World) (hr:Reads w (.slice a bs.length cap) bs.length (bs.map U)) (h0:bs≠[]) (hc2:w.cell? ⟨b2,o2,none⟩=some (.int .u8 10)) :
 Calls Tryz.prog 236 #[.slice a bs.length cap,.slice (some ⟨b2,o2,none⟩) 1 d] w fun e w'=>e=.returned (.int .i64 (bs.count 10:Int))/\w'=w:=by
 obtain⟨ad,rfl,h1,h2⟩:=nums_at hr h0
 refine (Tryz.bytes_Count_one_at ad bs.length cap b2 o2 d (Lib.numsL bs) 10 w h1 h2 hc2).mono ?_
 rintro e w' ⟨rfl,rfl⟩
 refine⟨?_,rfl⟩
 rw[Lib.bytesOf_numsL]
 rfl
theorem dropW_nil (p:UInt8->Bool):∀(l:List UInt8),(∀x∈l,p x=true)->l.dropWhile p=[]
 | [],_=>rfl
 | c::r,h=>by rw[List.dropWhile_cons,if_pos (h c (by simp)),dropW_nil p r (fun x hx=>h x (by simp[hx]))]
theorem cut_at {bs:List UInt8} {k:Nat} (hk:bs[k]? = some 10) (hno:(10:UInt8)∉bs.drop (k+1)):cutOf bs=k+1:=by
 have hkl:k<bs.length:=(gSm hk).1
 have e:bs=bs.take k++10::bs.drop (k+1):=by
  rw[gEl hkl] at hk
  injection hk with hk
  rw[<- hk,<- List.drop_eq_getElem_cons hkl,List.take_append_drop]
 unfold cutOf
 conv=>lhs;rw[e]
 rw[List.reverse_append,List.reverse_cons,List.append_assoc]
 rw[List.dropWhile_append,if_pos]
 . simp
   omega
 .
  rw[List.isEmpty_iff]
  refine dropW_nil _ _ (fun x hx=>?_)
  simp only[bne_iff_ne,ne_eq]
  intro e2
  subst e2
  exact hno (List.mem_reverse.1 hx)
theorem lastByte_is (a:Option Addr) (cap:Nat) (bs:List UInt8) (w:World) (hr:Reads w (.slice a bs.length cap) bs.length (bs.map U)) (hin:(10:UInt8)∈bs) :
 Calls Tryz.prog 270 #[.slice a bs.length cap,.int .u8 10] w fun e w'=>e=.returned (.int .i64 ((cutOf bs:Int)-1))/\Below w.heap.size w w':=by
 have hle:=reads_leP hr
 have HR:Hid (Reads w (.slice a bs.length cap) bs.length (bs.map U)):=hr
 have HIN:Hid ((10:UInt8)∈bs):=hin
 have h0:0<bs.length:=List.length_pos_of_mem hin
 obtain⟨N,hN⟩:∃N,N=bs.length:=⟨_,rfl⟩
 have HN:Hid (N=bs.length):=hN
 obtain⟨Z,hZ⟩:∃Z,Z=cutOf bs:=⟨_,rfl⟩
 have HZ:Hid (Z=cutOf bs):=hZ
 rw[<- hN] at HR hle h0 ⊢
 rw[<- hZ]
 clear hr hin hN hZ
 go_enter Tryz.func270,Tryz.ntmps270
 go_wp2_with fail
 go_loopw [5] (fun i wr=>∃k:Nat,k<=N/\i=.int .i64 ((k:Int)-1)/\Hid (wr=w)/\Hid ((10:UInt8)∉bs.drop k)) (fun i _=>(intOf i+1).toNat)
 case atStart=>exact⟨N,Nat.le_refl _,by go_num,rfl,(show (10:UInt8)∉bs.drop N by rw[HN.out,List.drop_length];simp)⟩
 case round=>
  obtain⟨k,hk,rfl,hw,hno⟩:=hrel
  obtain rfl:=hw.out
  cases k with
  | zero=>exact absurd HIN.out (by simpa using hno.out)
  | succ k=>
   obtain⟨c,hc⟩:∃c,bs[k]? = some c:=⟨_,gEl (by have:=HN.out;omega)⟩
   obtain⟨b,off,rfl,hcell⟩:=reads_byteP HR.out hc
   have e1:((k+1:Nat):Int)-1=(k:Int):=by omega
   rw[e1]
   by_cases h10:c=10
   . subst h10
     have HP:Hid ((Z:Int)-1=(k:Int)):=(show _=_ by rw[HZ.out,cut_at hc hno.out];omega)
     clear hno hc hw e1
     go_wp2_with fail
     go_ret
     exact⟨by rw[HP.out];rfl,Below.refl _ _⟩
   .
    have h10':¬(c.toNat:Int)=10:=fun e=>h10 (UInt8.toNat_inj.1 (by simpa using (by omega:c.toNat=10)))
    have HNO:Hid ((10:UInt8)∉bs.drop k):=(show (10:UInt8)∉bs.drop k by
     have hkl:k<bs.length:=(gSm hc).1
     rw[List.drop_eq_getElem_cons hkl,List.mem_cons,not_or]
     rw[gEl hkl] at hc
     injection hc with hc
     exact⟨fun e=>h10 (by rw[<- hc,<- e]),hno.out⟩)
    generalize (c.toNat:Int)=ci at *
    clear hno hc hw e1 h10
    go_wp2_with fail
    go_roundw
    case rel=>exact⟨k,by omega,by go_num,trivial,HNO⟩
    case measure=>first | (simp[intOf];done) | (simp[intOf];omega)
theorem lastFeed_is (a:Option Addr) (cap:Nat) (bs:List UInt8) (w:World) (hr:Reads w (.slice a bs.length cap) bs.length (bs.map U)) (hin:(10:UInt8)∈bs) :
 Calls Tryz.prog 235 #[.slice a bs.length cap,.int .u8 10] w fun e w'=>e=.returned (.int .i64 ((cutOf bs:Int)-1))/\Below w.heap.size w w':=by
 have H:Hid _:=lastByte_is a cap bs w hr hin
 generalize (cutOf bs:Int)-1=Z at *
 generalize bs.length=N at *
 clear hr hin
 go_enter Tryz.func235,Tryz.ntmps235
 go_wp2_with fail
 refine Calls.mono H.out ?_
 rintro e w1 ⟨rfl,hb⟩
 have HB:Hid _:=hb
 clear hb H
 go_wp2_with fail
 go_ret
 exact⟨rfl,HB.out⟩
def passV (n:SNode) (bx:Nat):Value:=if n.kind=4/\n.how=1 then .func (.func 267) #[] #[] else if n.kind=3/\isEach n.c.kind=true then .func (.func 268) #[] #[.pointer (some ⟨bx,0,none⟩)] else .nilFunc
theorem passing_is (n:SNode) (ai:Option Addr) (ni ci:Nat) (w:World) :
 Calls Tryz.prog 233 #[nodeV n ai ni ci] w fun e w'=>e=.returned (passV n w.heap.size)/\Below w.heap.size w w'/\w'.heap[w.heap.size]? = some (.cells #[.int .i64 n.kind,.string ⟨n.file.toArray⟩,.int .i64 n.c.kind,.string ⟨n.c.word.toArray⟩,.int .i64 n.c.n,.int .i64 n.how,.int .i64 n.wide,.slice ai ni ci] 73 (0,0)):=by
 have HEa:Hid _:=fun (W:World)=>each_is n.c W
 have hx:=heap_alloc_new w (.cells #[.int .i64 n.kind,.string ⟨n.file.toArray⟩,.int .i64 n.c.kind,.string ⟨n.c.word.toArray⟩,.int .i64 n.c.n,.int .i64 n.how,.int .i64 n.wide,.slice ai ni ci] 73)
 unfold nodeV passV
 unfold Cmd.v at HEa
 generalize hIE:isEach n.c.kind=IE at *
 generalize (⟨n.file.toArray⟩:ByteArray)=fx at *
 generalize (⟨n.c.word.toArray⟩:ByteArray)=wx0 at *
 generalize n.c.kind=ck at *
 generalize n.c.n=cn' at *
 generalize n.how=hw at *
 generalize n.wide=wd at *
 generalize n.kind=nk at *
 have HX:Hid _:=hx
 clear hx hIE
 by_cases h4:nk=4
 .
  subst h4
  by_cases h1:hw=1
  .
   subst h1
   clear HEa
   go_enter Tryz.func233,Tryz.ntmps233
   go_wp2_with fail
   go_ret
   exact⟨rfl,boxE,HX.out⟩
  .
   have HP:Hid ((if (4:Int)=4/\hw=1 then Value.func (.func 267) #[] #[] else if (4:Int)=3/\IE=true then .func (.func 268) #[] #[.pointer (some ⟨w.heap.size,0,none⟩)] else .nilFunc)=.nilFunc):=(show _=_ by rw[if_neg (fun h=>h1 h.2),if_neg (by omega)])
   clear HEa
   rw[HP.out]
   go_enter Tryz.func233,Tryz.ntmps233
   go_wp2_with fail
   go_ret
   exact⟨rfl,boxE,HX.out⟩
 .
  by_cases h3:nk=3
  .
   subst h3
   have HP:Hid ((if (3:Int)=4/\hw=1 then Value.func (.func 267) #[] #[] else if (3:Int)=3/\IE=true then .func (.func 268) #[] #[.pointer (some ⟨w.heap.size,0,none⟩)] else .nilFunc)=if IE=true then .func (.func 268) #[] #[.pointer (some ⟨w.heap.size,0,none⟩)] else .nilFunc):=(show _=_ by rw[if_neg (by omega)];simp)
   rw[HP.out]
   go_enter Tryz.func233,Tryz.ntmps233
   go_wp2_with fail
   refine Calls.mono (HEa.out _) ?_
   rintro e w1 ⟨rfl,hb1⟩
   have HX1:Hid _:=(hb1.block w.heap.size (by simp)).trans HX.out
   have HB1:Hid (Below w.heap.size w w1):=boxE.trans (hb1.mono boxE.size)
   clear hb1 HEa
   cases IE
   . go_wp2_with fail
     go_ret
     exact⟨rfl,HB1.out,HX1.out⟩
   . go_wp2_with fail
     go_ret
     exact⟨rfl,HB1.out,HX1.out⟩
  .
   have HP:Hid ((if nk=4/\hw=1 then Value.func (.func 267) #[] #[] else if nk=3/\IE=true then .func (.func 268) #[] #[.pointer (some ⟨w.heap.size,0,none⟩)] else .nilFunc)=.nilFunc):=(show _=_ by rw[if_neg (fun h=>h4 h.1),if_neg (fun h=>h3 h.1)])
   clear HEa
   rw[HP.out]
   go_enter Tryz.func233,Tryz.ntmps233
   go_wp2_with fail
   go_ret
   exact⟨rfl,boxE,HX.out⟩
end Go.Proofs.YtllgglolcgdehaaGreatDoor
namespace Go.Proofs.YtllgglolcgdehaaGreatDoor
open Go.RowKit Go.Gs Go.Maps
set_option linter.unusedVariables false
variable {G:World->(Nat->Option Own)->Prop}
theorem modify_set {xs:List SPipe} {q:Nat} {x:SPipe} (h:xs[q]? = some x):xs.modify q closeP=xs.set q (closeP x):=by
 apply List.ext_getElem?
 intro j
 rw[List.getElem?_modify,List.getElem?_set]
 by_cases e:q=j
 . subst e
   rw[h]
   simp[(gSm h).1]
 . rw[if_neg e]
   cases xs[j]? <;> simp[e]
def endTo (M:SMach) (i k:Nat):SMach:=⟨M.ns,M.fs,closeTo M.ns i k M.pipes,M.ps,M.sunk⟩
theorem endTo_step {M:SMach} {i k q:Nat} {x:SPipe} (hq:q=intoOf M.ns ((i:Int),(k:Int))) (hx:(endTo M i k).pipes[q]? = some x):(endTo M i k).setX q (closeP x)=endTo M i (k+1):=by
 have hx':(closeTo M.ns i k M.pipes)[q]? = some x:=hx
 unfold endTo SMach.setX
 simp only
 rw[closeTo,<- hq,modify_set hx']
theorem endE_is (D r:Nat) (O:Nat->Option Own) (d:RD) (i:Nat) (n:SNode) (p:SProc) (w:World) (h:RunM G w D r O d) (hS:Shape d.M) (hn:d.M.ns[i]? = some n) (hp:d.M.ps[i]? = some p) :
 Calls Tryz.prog 119 #[.pointer (some ⟨r,0,none⟩),.int .i64 i] w fun e w'=>e=.returned (.int .i64 0)/\RunAt G w' D r (endS d.M i p)/\Below D w w':=by
 have hF:=hS.proc i n p hn hp
 obtain⟨gP,cP,s,hvP,hcP1,hcP2,hgP,hOP,hs,p0,p1,p2,p3,p4,hfP,hGo,hOo,hgl,hol⟩:=h.procAt hp
 obtain⟨⟨ao,co,hov,hov1,hov2⟩,_⟩:=owns_formE hOo
 obtain⟨gX,cX,hvX,hcX1,hcX2,hOX⟩:=h.formX (Shape.pipes0 hS)
 have hil:i<d.M.ps.length:=(gSm hp).1
 obtain⟨b0,b1,b2,b3,b4,b5,b6⟩:=cells7 h.box.1
 rw[hvP] at b3
 rw[hov] at p2
 have hov2':co<=9223372036854775807:=by unfold maxLen at hov2;exact hov2
 have HH:Hid (RunM G w D r O d):=h
 have HS:Hid (Shape d.M):=hS
 have HN:Hid (d.M.ns[i]? = some n):=hn
 have HP:Hid (d.M.ps[i]? = some p):=hp
 have HSl:Hid (d.P[i]? = some s):=hs
 have HVX:Hid (d.vX=.slice (some ⟨gX,0,none⟩) d.M.pipes.length cX):=hvX
 have HVP:Hid (d.vP=.slice (some ⟨gP,0,none⟩) d.M.ps.length cP):=hvP
 have HCX:Hid (d.M.pipes.length<=cX/\cX<=9223372036854775807):=⟨hcX1,hcX2⟩
 have HF:Hid (ProcF n p):=hF
 have HOX:Hid (O gX=some .pipes):=hOX
 have HOP:Hid (O gP=some .procs):=hOP
 obtain⟨NL,hNL⟩:∃N,N=p.out.length:=⟨_,rfl⟩
 have HNL:Hid (NL=p.out.length):=hNL
 obtain⟨NP,hNP⟩:∃N,N=d.M.ps.length:=⟨_,rfl⟩
 rw[<- hNL] at p2 hov1
 rw[<- hNP] at b3 hil hcP1
 clear h hS hn hp hs hvX hcX1 hcX2 hov hF hNL hNP hgP hOP p0 p1 p3 p4 hfP hGo hOo hgl hol hov2 b0 b1 b2 b4 b5 b6 hvP hOX
 go_enter Tryz.func119,Tryz.ntmps119
 go_wp2_with fail
 go_loopw [19] (fun z wr=>∃k:Nat,k<=NL/\z=.int .i64 k/\Hid (Below D w wr)/\Hid (∃dk,RunM G wr D r O dk/\dk.M=endTo d.M i k/\dk.vX=d.vX/\dk.vP=d.vP/\dk.P=d.P)) (fun z _=>NL-(intOf z).toNat)
 case atStart=>exact⟨0,Nat.zero_le _,rfl,Below.refl _ _,(show ∃dk,RunM G w D r O dk/\dk.M=endTo d.M i 0/\dk.vX=d.vX/\dk.vP=d.vP/\dk.P=d.P from ⟨d,HH.out,rfl,rfl,rfl,rfl⟩)⟩
 case round=>
  obtain⟨k,hk,rfl,hbel,hdk⟩:=hrel
  obtain⟨dk,hR,eM,eX,eP,ePP⟩:=hdk.out
  have HR:Hid (RunM G wr D r O dk):=hR
  have HM:Hid (dk.M=endTo d.M i k):=eM
  have hplen:dk.M.pipes.length=d.M.pipes.length:=by rw[eM];exact closeTo_len _ _ _ _
  have hns:dk.M.ns=d.M.ns:=by rw[eM];rfl
  have hpss:dk.M.ps=d.M.ps:=by rw[eM];rfl
  have HVX2:Hid (dk.vX=.slice (some ⟨gX,0,none⟩) dk.M.pipes.length cX):=(show _=_ by rw[eX,hplen];exact HVX.out)
  have HVP2:Hid (dk.vP=.slice (some ⟨gP,0,none⟩) dk.M.ps.length cP):=(show _=_ by rw[eP,hpss];exact HVP.out)
  have HEX:Hid (dk.vX=d.vX/\dk.vP=d.vP/\dk.P=d.P):=⟨eX,eP,ePP⟩
  have HSl2:Hid (dk.P[i]? = some s):=(show _=_ by rw[ePP];exact HSl.out)
  have HP2:Hid (dk.M.ps[i]? = some p):=(show _=_ by rw[hpss];exact HP.out)
  clear hdk
  by_cases hlt:k<NL
  .
   have hkn:(k:Int)<nouts n:=by have:=HF.out.olen;have:=HNL.out;omega
   obtain⟨q,hq⟩:∃q,q=intoOf d.M.ns ((i:Int),(k:Int)):=⟨_,rfl⟩
   obtain⟨r',j',n',hn',hj',_,hinto,hql⟩:=HS.out.g.reader HN.out hkn
   have hqx:q<dk.M.pipes.length:=by rw[hplen,hq,HS.out.xlen,hinto];exact hql
   have HPO:Hid _:=pipeOf_is D r O dk i k q gX cX n wr hR (by rw[hns];exact HS.out.g) (by rw[hns];exact HN.out) hkn (by rw[hplen,hns];exact HS.out.xlen) (by rw[hns];exact hq) HVX2.out (by rw[hplen];exact HCX.out)
   obtain⟨x,hx⟩:∃x,dk.M.pipes[q]? = some x:=⟨_,gEl hqx⟩
   have HX:Hid (dk.M.pipes[q]? = some x):=hx
   have HQ:Hid (q=intoOf d.M.ns ((i:Int),(k:Int))):=hq
   clear hR eM eX eP ePP hplen hns hpss hq hn' hj' hinto hql hqx hx hkn
   go_wp2_with fail
   refine Calls.mono HPO.out ?_
   rintro e w2 ⟨rfl,hb2⟩
   have hR2:=RMem.below HR.out hb2
   obtain⟨t,ht,hRt,x0,x1,x2,x3,hfX,hOX2,hgX⟩:=RMem.atX hR2 HVX2.out HX.out
   have hfx2:=hfX (q*4+2)
   have hEND:∃dk',RunM G (w2.setCell ⟨gX,q*4+2,none⟩ (.bool true)) D r O dk'/\dk'.M=endTo d.M i (k+1)/\dk'.vX=d.vX/\dk'.vP=d.vP/\dk'.P=d.P:=by
    refine⟨dk.setPipe q (closeP x) t,RMem.setClosed hR2 HX.out ht HVX2.out HOX.out,?_,HEX.out.1,HEX.out.2.1,HEX.out.2.2⟩
    show dk.M.setX q (closeP x)=_
    have hx2:=HX.out
    rw[HM.out] at hx2 ⊢
    exact endTo_step HQ.out hx2
   have HEND:Hid _:=hEND
   have HBX:Hid (Below D w (w2.setCell ⟨gX,q*4+2,none⟩ (.bool true))):=((hbel.out.trans (hb2.mono HR.out.le)).setCell (hR2.lo _ _ HOX.out).1 _)
   clear hEND hR2 ht hRt x0 x1 x3 hfX hOX2 hb2 HPO
   go_wp2_with fail
   go_roundw
   case rel=>exact⟨k+1,by omega,by go_num,HBX,HEND⟩
   case measure=>simp[intOf];omega
  .
   have hkN:k=p.out.length:=by have:=HNL.out;omega
   obtain⟨gP',cP',s',hvP',_,_,_,hOP',hs',q0,q1,q2,q3,q4,hfP',_⟩:=RMem.procAt hR HP2.out
   rw[HVP2.out] at hvP'
   injection hvP' with e1
   injection e1 with e1
   injection e1 with e1
   subst e1
   have hf4:=hfP' (i*5+4)
   have hEND:RunAt G (wr.setCell ⟨gP,i*5+4,none⟩ (.bool true)) D r (endS d.M i p)/\Below D w (wr.setCell ⟨gP,i*5+4,none⟩ (.bool true)):=by
    refine⟨⟨O,dk.setProc i ⟨p.got,p.pos,p.out,p.rd,true⟩ s,RMem.setNum hR HP2.out HSl2.out HVP2.out hOP' (by omega) rfl rfl rfl,?_⟩,hbel.out.setCell (hR.lo _ _ hOP').1 _⟩
    show dk.M.setP i _=_
    rw[eM,hkN]
    rfl
   have HEND:Hid _:=hEND
   clear hEND hR eM eX eP ePP hplen hns hpss hs' q0 q1 q2 q3 hfP' hOP'
   go_wp2_with fail
   go_ret
   exact⟨rfl,HEND.out⟩
end Go.Proofs.YtllgglolcgdehaaGreatDoor
