/- Where the pipes are, and more. -/
import Derived.Test.YtllgglolcgdehaaGreatDoorXa02
import Derived.Test.YtllgglolcgdehaaGreatDoorXa03
set_option maxRecDepth 100000
set_option maxHeartbeats 16000000
namespace Go.Proofs.YtllgglolcgdehaaGreatDoor
open Go.RowKit Go.Gs Go.Maps
set_option linter.unusedVariables false
variable {G:World->(Nat->Option Own)->Prop}
theorem zeroIntE (w:World):(zeroValue 3).run Tryz.prog w=.ok (.int .i64 0) w:=by kernel_rfl
def IntoIs (w:World) (b n:Nat) (f:Int × Int->Int):Prop:=
 ∃D:DataW Unit,w.ownsMap Tryz.prog 79 (plainElem Tryz.prog 3) b n D /\ ∀p,WfP p->D.atKey (portK p) (.lit (.int .i64 0))=.lit (.int .i64 (f p))
theorem IntoIs.keep {w w':World} {b n:Nat} {f:Int × Int->Int} (h:IntoIs w b n f) (hb:w'.heap[b]? = w.heap[b]?):IntoIs w' b n f:=by
 obtain⟨D,⟨es,clock,h1,h2⟩,h3⟩:=h
 exact⟨D,⟨es,clock,hb.trans h1,h2⟩,h3⟩
theorem IntoIs.put {w w':World} {b n:Nat} {f g:Int × Int->Int} {D:DataW Unit} {p:Int × Int} (h1:w.ownsMap Tryz.prog 79 (plainElem Tryz.prog 3) b n D) (h2:∀p,WfP p->D.atKey (portK p) (.lit (.int .i64 0))=.lit (.int .i64 (f p)))
 (hp:WfP p) (ho:w'.ownsMap Tryz.prog 79 (plainElem Tryz.prog 3) b (n+1) (D.put (portK p) (.lit (.int .i64 (g p))))) (hg:∀q,q≠p->g q=f q):IntoIs w' b (n+1) g:=by
 refine⟨_,ho,fun q hq=>?_⟩
 by_cases e:q=p
 . subst e
   rw[Go.Maps.atKey_put_same h1.isMap (portKeyed.key (port_key w q hq))]
 . rw[Go.Maps.atKey_put_other (fun h=>e (portK_inj w hq hp h)),h2 q hq,hg q e]
theorem into_made (w:World):IntoIs (w.alloc (.map #[] 0)) w.heap.size 0 (fun _=>0):=
 ⟨.map [],World.ownsMap_made w Tryz.prog 79 (plainElem Tryz.prog 3),fun p _=>by simp[DataW.atKey]⟩
theorem IntoIs.look {w:World} {b n:Nat} {f:Int × Int->Int} (h:IntoIs w b n f) {p:Int × Int} (hp:WfP p):(Instr.lookup 109 (.map (some b)) (portV p) false).run Tryz.prog w=.ok (.int .i64 (f p)) w:=by
 obtain⟨D,hown,hat⟩:=h
 obtain⟨c,hrun,hat',_⟩:=hown.lookup_int portKeyed Tryz.underlying109 Tryz.underlying3 (zeroIntE w) (port_key w p hp)
 rw[hat p hp] at hat'
 have e:f p=c:=by simpa using hat'
 rw[hrun,e]
def intoZ (ns:List SNode) (p:Int × Int):Int:=if p∈allIns ns then (intoOf ns p:Int) else 0
def firsts (ns:List SNode):List Value:=(List.range ns.length).map (fun i=>.int .i64 (firstIn ns i:Int))
def AuxF (D:Nat) (vI vM:Value) (ns:List SNode) (w:World) (O:Nat->Option Own):Prop:=
 w.ownsRow D 3 1 vI ns.length (firsts ns)/\OwnedBy O vI .aux /\ ∃b n,vM=.map (some b)/\IntoIs w b n (intoZ ns)/\O b=some .aux
theorem auxF_ok (D:Nat) (vI vM:Value) (ns:List SNode):AuxOk (AuxF D vI vM ns):=by
 intro w w' O O' h hk hO
 obtain⟨h1,h2,b,n,h3,h4,h5⟩:=h
 exact⟨ownsRow_keep h1 (fun g hg=>hk g (h2 g hg)),fun g hg=>(hO _ _ (h2 g hg)).trans (h2 g hg),b,n,h3,h4.keep (hk b h5),(hO _ _ h5).trans h5⟩
def RunM (G:World->(Nat->Option Own)->Prop) (w:World) (D r:Nat) (O:Nat->Option Own) (d:RD):Prop:=RMem w D r O (fun w O=>AuxF D d.vI d.vM d.M.ns w O/\G w O) d
abbrev NoG:World->(Nat->Option Own)->Prop:=fun _ _=>True
theorem auxG_ok (D:Nat) (vI vM:Value) (ns:List SNode) {G:World->(Nat->Option Own)->Prop} (hG:AuxOk G):AuxOk (fun w O=>AuxF D vI vM ns w O/\G w O):=fun w w' O O' h hk hO=>⟨auxF_ok D vI vM ns w w' O O' h.1 hk hO,hG w w' O O' h.2 hk hO⟩
theorem noG_ok:AuxOk NoG:=fun _ _ _ _ _ _ _=>trivial
def RunAt (G:World->(Nat->Option Own)->Prop) (w:World) (D r:Nat) (M:SMach):Prop:=∃O d,RunM G w D r O d/\d.M=M
theorem RunM.firstAt {w:World} {D r:Nat} {O:Nat->Option Own} {d:RD} (h:RunM G w D r O d) {i:Nat} {n:SNode} (hn:d.M.ns[i]? = some n) :
 ∃g c,d.vI=.slice (some ⟨g,0,none⟩) d.M.ns.length c/\d.M.ns.length<=c/\c<=9223372036854775807/\w.cell? ⟨g,i,none⟩=some (.int .i64 (firstIn d.M.ns i:Int)):=by
 have hil:i<d.M.ns.length:=(gSm hn).1
 obtain⟨⟨h1,h2,_⟩,_⟩:=h.part .aux
 obtain⟨g,c,e,hc,hc2,hg,hcell,hf⟩:=(owns_formE h1).2 (by omega)
 refine⟨g,c,e,hc,hc2,?_⟩
 rw[hcell i (by omega)]
 unfold firsts
 rw[List.getElem?_map,List.getElem?_range hil]
 rfl
theorem RunM.intoAt {w:World} {D r:Nat} {O:Nat->Option Own} {d:RD} (h:RunM G w D r O d):∃b n,d.vM=.map (some b)/\IntoIs w b n (intoZ d.M.ns):=by
 obtain⟨⟨_,_,b,n,h3,h4,_⟩,_⟩:=h.part .aux
 exact⟨b,n,h3,h4⟩
theorem zeroBsE (w:World):(zeroValue 28).run Tryz.prog w=.ok (.slice none 0 0) w:=by kernel_rfl
theorem slRow_nil (n:Nat):slRow (List.replicate n []) (List.replicate n nilS)=List.replicate n (.slice none 0 0):=by
 unfold slRow
 rw[List.zipWith_replicate]
 simp[sl,nilS]
theorem RMem.clearGot {w : World} {D r : Nat} {O : Nat → Option Own} {A : World → (Nat → Option Own) → Prop} {d : RD} (h : RMem w D r O A d) {i : Nat} {p : SProc} {s : PSlot} (hp : d.M.ps[i]? = some p) (hs : d.P[i]? = some s) (ty : TypeId) :
    ∃ w' s', (Builtin.clear_ #[74] ty #[s.gv]).run Tryz.prog w = .ok (.tuple #[]) w' ∧ RMem w' D r O A (d.setProc i ⟨p.got.map (fun _ => []), p.pos, p.out, p.rd, p.ov⟩ s') ∧ s'.gv = s.gv ∧ s'.ov = s.ov ∧ s'.os = s.os ∧ Touch O (.gots i) w w' := by
  obtain ⟨hl1, hl2⟩ := h.slen i p s hp hs
  obtain ⟨h1, h2⟩ := h.part (.gots i) p s hp hs
  have hmap : p.got.map (fun _ => ([] : List UInt8)) = List.replicate p.got.length [] := by
    rw [List.map_const']
  have key : ∀ w', Touch O (.gots i) w w' → w'.ownsRow D 28 1 s.gv p.got.length (List.replicate p.got.length (.slice none 0 0)) → RMem w' D r O A (d.setProc i ⟨p.got.map (fun _ => []), p.pos, p.out, p.rd, p.ov⟩ ⟨s.gv, s.ov, List.replicate p.got.length nilS, s.os⟩) := by
    intro w' ht hown
    refine h.upd (o := .gots i) ht (fun _ _ => rfl) (lo_keep h ht.size) rfl rfl rfl rfl h.xlen (by simpa [RD.setProc, SMach.setP] using h.plen) (slen_set h (by simp) hl2) ?_ ?_
    . intro o' ho' hpt
      have hPq : ∀ (i' : Nat) (q : SProc), (d.setProc i ⟨p.got.map (fun _ => []), p.pos, p.out, p.rd, p.ov⟩ ⟨s.gv, s.ov, List.replicate p.got.length nilS, s.os⟩).M.ps[i']? = some q → i ≠ i' → d.M.ps[i']? = some q := fun i' q hq e => by
        have : (d.M.ps.set i ⟨p.got.map (fun _ => []), p.pos, p.out, p.rd, p.ov⟩)[i']? = some q := hq
        rwa [set_ne e] at this
      have hPt : ∀ (i' : Nat) (t : PSlot), (d.setProc i ⟨p.got.map (fun _ => []), p.pos, p.out, p.rd, p.ov⟩ ⟨s.gv, s.ov, List.replicate p.got.length nilS, s.os⟩).P[i']? = some t → i ≠ i' → d.P[i']? = some t := fun i' t ht e => by
        have : (d.P.set i ⟨s.gv, s.ov, List.replicate p.got.length nilS, s.os⟩)[i']? = some t := ht
        rwa [set_ne e] at this
      have hPi : ∀ q, (d.setProc i ⟨p.got.map (fun _ => []), p.pos, p.out, p.rd, p.ov⟩ ⟨s.gv, s.ov, List.replicate p.got.length nilS, s.os⟩).M.ps[i]? = some q → ⟨p.got.map (fun _ => []), p.pos, p.out, p.rd, p.ov⟩ = q := fun q hq => by
        have : (d.M.ps.set i ⟨p.got.map (fun _ => []), p.pos, p.out, p.rd, p.ov⟩)[i]? = some q := hq
        rw [set_eq hp] at this; injection this
      have hTi : ∀ t, (d.setProc i ⟨p.got.map (fun _ => []), p.pos, p.out, p.rd, p.ov⟩ ⟨s.gv, s.ov, List.replicate p.got.length nilS, s.os⟩).P[i]? = some t → ⟨s.gv, s.ov, List.replicate p.got.length nilS, s.os⟩ = t := fun t ht => by
        have : (d.P.set i ⟨s.gv, s.ov, List.replicate p.got.length nilS, s.os⟩)[i]? = some t := ht
        rw [set_eq hs] at this; injection this
      cases o' using Own.elimE with
      | procs =>
        refine ⟨?_, hpt.2⟩
        have e1 : procRows (d.setProc i ⟨p.got.map (fun _ => []), p.pos, p.out, p.rd, p.ov⟩ ⟨s.gv, s.ov, List.replicate p.got.length nilS, s.os⟩).M.ps (d.setProc i ⟨p.got.map (fun _ => []), p.pos, p.out, p.rd, p.ov⟩ ⟨s.gv, s.ov, List.replicate p.got.length nilS, s.os⟩).P = procRows d.M.ps d.P := procRows_same hp hs rfl
        have hlen : (d.setProc i ⟨p.got.map (fun _ => []), p.pos, p.out, p.rd, p.ov⟩ ⟨s.gv, s.ov, List.replicate p.got.length nilS, s.os⟩).M.ps.length = d.M.ps.length := by simp [RD.setProc, SMach.setP]
        rw [e1, hlen]
        exact hpt.1
      | gots i' =>
        have hne : i ≠ i' := fun e => ho' (by rw [e])
        intro q t hq ht
        exact hpt q t (hPq i' q hq hne) (hPt i' t ht hne)
      | outs i' =>
        intro q t hq ht
        by_cases e : i = i'
        . subst e
          obtain rfl := hPi q hq
          obtain rfl := hTi t ht
          exact hpt p s hp hs
        . exact hpt q t (hPq i' q hq e) (hPt i' t ht e)
      | got i' j' =>
        intro q t b' a' hq ht hb' ha'
        by_cases e : i = i'
        . subst e
          obtain rfl := hPi q hq
          obtain rfl := hTi t ht
          have e3 : b' = [] := by
            simp only [hmap] at hb'
            rw [List.getElem?_replicate] at hb'
            split at hb'
            . injection hb' with hb'; exact hb'.symm
            . cases hb'
          have e4 : a' = nilS := by
            simp only at ha'
            rw [List.getElem?_replicate] at ha'
            split at ha'
            . injection ha' with ha'; exact ha'.symm
            . cases ha'
          subst e3 e4
          exact SOf.nil _ _ _
        . exact hpt q t b' a' (hPq i' q hq e) (hPt i' t ht e) hb' ha'
      | out i' k =>
        intro q t b' a' hq ht hb' ha'
        by_cases e : i = i'
        . subst e
          obtain rfl := hPi q hq
          obtain rfl := hTi t ht
          exact hpt p s b' a' hp hs hb' ha'
        . exact hpt q t b' a' (hPq i' q hq e) (hPt i' t ht e) hb' ha'
      | box => exact hpt
      | pipes => exact hpt
      | pipe q => exact hpt
      | sunk => exact hpt
      | aux => exact hpt
    . intro q t hq ht
      have e1 : (⟨p.got.map (fun _ => []), p.pos, p.out, p.rd, p.ov⟩ : SProc) = q := by
        have : (d.M.ps.set i ⟨p.got.map (fun _ => []), p.pos, p.out, p.rd, p.ov⟩)[i]? = some q := hq
        rw [set_eq hp] at this; injection this
      have e2 : (⟨s.gv, s.ov, List.replicate p.got.length nilS, s.os⟩ : PSlot) = t := by
        have : (d.P.set i ⟨s.gv, s.ov, List.replicate p.got.length nilS, s.os⟩)[i]? = some t := ht
        rw [set_eq hs] at this; injection this
      subst e1 e2
      refine ⟨?_, h2⟩
      simp only [hmap, slRow_nil, List.length_replicate]
      exact hown
  by_cases h0 : p.got.length = 0
  . have hg0 : p.got = [] := List.length_eq_zero_iff.1 h0
    refine ⟨w, _, ?_, key w (Touch.refl _ _ _) (by rw [h0]; rw [h0] at h1; have e1 : slRow p.got s.gs = [] := by rw [hg0]; rfl
                                                   rw [e1] at h1; exact h1), rfl, rfl, rfl, Touch.refl _ _ _⟩
    obtain ⟨⟨ao, cap, hv, _, _⟩, _⟩ := owns_formE h1
    rw [hv, h0]
    cases ao with
    | none => simp [Builtin.clear_, run_underlying Tryz.underlying74]
    | some a => simp [Builtin.clear_, run_underlying Tryz.underlying74]
  . rcases id h1.2 with ⟨_, hc⟩ | ⟨g, cap, cur, hv, hb, hg, hl, hm, hsz, htk⟩
    . exact absurd hc h0
    . have hgo : O g = some (.gots i) := h2 g (by rw [hv]; rfl)
      obtain ⟨cur', hg', hsz', hat'⟩ := row_setCells (List.replicate p.got.length (.slice none 0 0)) 0 w cur hg (by simp; omega)
      have hrun := Lib.run_clear_slice (P := Tryz.prog) w 74 28 ty (.slice none 0 0) Tryz.underlying74 zeroBsE rfl rfl g 0 p.got.length cap (by omega) (fun j hj => by rw [Nat.zero_add, cell_of_row _ _ _ _ _ _ hg, Array.getElem?_eq_getElem (by omega)]; rfl) (fun j hj => frozen_of_row _ _ _ _ _ hg)
      have hk := World.keptBut_setCells g (may := fun p => p.block = g) (List.replicate p.got.length (Value.slice none 0 0)) 0 w (fun _ _ => rfl)
      have hT : Touch O (.gots i) w (w.setCells g 0 (List.replicate p.got.length (.slice none 0 0))) := ⟨World.os_setCells _ _ _ _, tape_setCellsE _ _ _ _, World.output_setCells _ _ _ _, hk.size, fun k hk2 hn => World.heap_setCells_other w g _ _ hk2 (fun e => hn (by rw [e]; exact hgo))⟩
      refine ⟨_, _, by rw [hv]; exact hrun, key _ hT ⟨by simp, .inr ⟨g, cap, cur', hv, hb, hg', hl, hm, by omega, ?_⟩⟩, rfl, rfl, rfl, hT⟩
      have := take_drop_at (xs := cur'.toList) (off := 0) (n := p.got.length * 1) (ys := List.replicate p.got.length (.slice none 0 0)) (by simp) (fun j hj => by
        rw [Nat.zero_add, Array.getElem?_toList, hat' j, if_pos (by simp; omega), Nat.sub_zero])
      rwa [List.drop_zero] at this
theorem step_append_is {P:Program} {ops:Array Oper} {o:Oper} {a:Act} {w:World} {K:Act->World->Prop} {Q:Exit->Act->World->Prop} {E:Prop}
 (hg:o.guard=none) (s x:Operand) (t:TypeId) (hop:o.op=Op.call { callee:=Callee.builtin Builtin.append,args:=#[s,x],argTypes:=#[t,t] }) (v u:Value) (hs:a.eval s=v) (hx:a.eval x=u) {v':Value} {w':World} (hrun:(Builtin.append_ #[t,t] o.type #[v,u]).run P w=.ok v' w') (hK:K (a.put o.dst v') w') :
 if Region.wanted o (yielded ops a.tmps)=true then Oper.wp P o a w K Q else E:=by
 have hw:Region.wanted o (yielded ops a.tmps)=true:=by simp[Region.wanted,hg]
 rw[if_pos hw]
 unfold Oper.wp
 simp[execOp,hop,resolve,invoke,builtin,hs,hx,hrun,Result.andThen]
 exact hK
theorem wpList_append_isE (w:World) {P:Program} {ops:Array Oper} {rest:List Oper} {o:Oper} {a:Act} {Q:Exit->Act->World->Prop} (hgd:o.guard=none) (s x:Operand) (t:TypeId)
 (ho:o.op=.call { callee:=.builtin .append,args:=#[s,x],argTypes:=#[t,t] }) (v u:Value) (hs:a.eval s=v) (hx:a.eval x=u) {v':Value} {w':World} (hrun:(Builtin.append_ #[t,t] o.type #[v,u]).run P w=.ok v' w') (hK:wpList P ops Q rest (a.put o.dst v') w'):wpList P ops Q (o::rest) a w:=by
 refine wpList_plain hgd fun K hK'=>?_
 unfold Oper.wp
 simp[execOp,ho,resolve,invoke,builtin,hs,hx,hrun,Result.andThen]
 exact hK' _ _ hK
theorem wpList_clear_runE {P:Program} (w:World) {ops:Array Oper} {rest:List Oper} {o:Oper} {a:Act} {Q:Exit->Act->World->Prop} (hgd:o.guard=none) (d:Operand) (t:TypeId)
 (ho:o.op=.call { callee:=.builtin .clear,args:=#[d],argTypes:=#[t] }) (v:Value) (hd:a.eval d=v) {v':Value} {w':World}
 (hr:(Builtin.clear_ #[t] o.type #[v]).run P w=.ok v' w') (h:wpList P ops Q rest (a.put o.dst v') w'):wpList P ops Q (o::rest) a w:=by
 refine wpList_plain hgd fun K hK'=>?_
 unfold Oper.wp
 simp[execOp,ho,resolve,invoke,builtin,hd,hr,Result.andThen]
 exact hK' _ _ h
end Go.Proofs.YtllgglolcgdehaaGreatDoor
namespace Go.Proofs.YtllgglolcgdehaaGreatDoor
open Go.RowKit Go.Gs Go.Maps
set_option linter.unusedVariables false
variable {G:World->(Nat->Option Own)->Prop}
theorem drewNE {B n:Nat} {w:World}:Below B w (w.drewN n):=⟨rfl,rfl,rfl,Nat.le_refl _,fun _ _=>rfl⟩
theorem wfP_nat {i k:Nat} (hi:i<=1000) (hk:k<=1000):WfP ((i:Int),(k:Int)):=by
 constructor <;> (simp[Lit.wf,IntKind.min,IntKind.max,IntKind.signed,IntKind.bits];omega)
theorem intoZ_is {ns:List SNode} {p:Int × Int} (h:p∈allIns ns):intoZ ns p=(intoOf ns p:Int):=by unfold intoZ;rw[if_pos h]
theorem pipeOf_is (D r:Nat) (O:Nat->Option Own) (d:RD) (i k q g c:Nat) (n:SNode) (w:World) (h:RunM G w D r O d) (hg:RightG d.M.ns) (hn:d.M.ns[i]? = some n) (hk:(k:Int)<nouts n) (hxl:d.M.pipes.length=(allIns d.M.ns).length) (hq:q=intoOf d.M.ns ((i:Int),(k:Int)))
 (hv:d.vX=.slice (some ⟨g,0,none⟩) d.M.pipes.length c) (hc:d.M.pipes.length<=c/\c<=9223372036854775807) :
 Calls Tryz.prog 165 #[.pointer (some ⟨r,0,none⟩),.int .i64 i,.int .i64 k] w fun e w'=>e=.returned (.pointer (some ⟨g,q*4,none⟩))/\Below w.heap.size w w':=by
 have hi60:i<60:=Nat.lt_of_lt_of_le (gSm hn).1 hg.le60
 have hk5:k<60:=by
  have hch:=hg.node n (mGt hn)
  have:nouts n<=5:=by
   unfold nouts
   split
   . rcases used_kinds (node_kinds hch).1 with ⟨h4 | h4,_⟩ | ⟨h4,_,h5⟩ | ⟨h4,_⟩ | ⟨h4,_⟩ <;> omega
   . split <;> omega
  omega
 obtain⟨r',j',n',hn',hj',_,hinto,hql⟩:=hg.reader hn hk
 obtain⟨b,m,hvM,hI⟩:=h.intoAt
 have hlook:∀N,(Instr.lookup 109 (.map (some b)) (.agg #[.int .i64 i,.int .i64 k]) false).run Tryz.prog (w.drewN N)=.ok (.int .i64 (q:Int)) (w.drewN N):=fun N=>by
  have h1:=IntoIs.look (w:=w.drewN N) (IntoIs.keep hI rfl) (wfP_nat (i:=i) (k:=k) (by omega) (by omega))
  rw[intoZ_is (hg.every i k n hn hk),<- hq] at h1
  exact h1
 have hqx:q<d.M.pipes.length:=by rw[hq,hxl,hinto];exact hql
 obtain⟨c0,c1,c2,c3,c4,c5,c6⟩:=cells7 h.box.1
 rw[hv] at c2
 rw[hvM] at c6
 generalize d.M.pipes.length=NX at *
 clear h hv hvM hI hq hxl hn hk hg hn' hj' hinto hql c0 c1 c3 c4 c5
 go_enter Tryz.func165,Tryz.ntmps165
 go_wp2_with fail
 go_quiet (fail)
 all_goals go_wp2_with fail
 all_goals go_ret
 all_goals exact⟨rfl,by first | exact Below.refl _ _ | exact drewNE⟩
end Go.Proofs.YtllgglolcgdehaaGreatDoor
