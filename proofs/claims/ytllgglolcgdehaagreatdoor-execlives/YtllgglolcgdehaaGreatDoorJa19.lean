/- What the developers' made (of graphs) does: Source, Sink. -/
import Derived.Test.YtllgglolcgdehaaGreatDoorJa18
import Derived.Test.YtllgglolcgdehaaGreatDoorJa16
namespace Go.Proofs.YtllgglolcgdehaaGreatDoor
open Go.RowKit Go.Gs
set_option linter.unusedVariables false
def MadeEnd (w:World) (outs:List (List UInt8)) (e:Ending) (w':World):Prop:=
 ∃ ar cr us,e=.returned (.tuple #[.slice ar outs.length cr,.int .i64 0])/\w'.ownsRow w.heap.size 28 1 (.slice ar outs.length cr) outs.length us/\(∀ (j:Nat) b,outs[j]? = some b -> ∃ u,us[j]? = some u/\Reads w' u b.length (b.map U)/\NewV w.heap.size u)/\Below w.heap.size w w'
theorem madeEnd_one {w W:World} {u:Value} {b:List UInt8} (hb:Below w.heap.size w W) (hu:Reads W u b.length (b.map U)) (hn:NewV w.heap.size u) :
 MadeEnd w [b] (.returned (.tuple #[.slice (some ⟨W.heap.size,0,none⟩) 1 1,.int .i64 0])) (W.alloc (.cells #[u] 28)):=by
 refine ⟨some ⟨W.heap.size,0,none⟩,1,[u],rfl,owns_of_row (heap_alloc_new W _) rfl hb.size (by simp),fun j c hj=>?_,hb.alloc hb.size _⟩
 cases j with
 | zero=>
  simp at hj
  subst hj
  exact ⟨u,rfl,hu.below box_of,hn⟩
 | succ j=>simp at hj
theorem word_fits {s:List UInt8} (h:isWord s=true):s.length<=9223372036854775807:=by
 unfold isWord at h
 simp only [Bool.and_eq_true,decide_eq_true_eq] at h
 omega
theorem made_one {n:SNode} (h:n.kind=1) (fs:List SFile) (ins:List (List UInt8)):nodeMade n fs ins=[ended (lines (fileOf fs n.file))]:=by unfold nodeMade;rw [if_pos h]
theorem made_two {n:SNode} (h:n.kind=2) (fs:List SFile) (ins:List (List UInt8)):nodeMade n fs ins=(List.range n.wide.toNat).map (partOf (ins.head?.getD []) n.wide.toNat):=by unfold nodeMade;rw [if_neg (by omega),if_pos h]
theorem made_three {n:SNode} (h:n.kind=3) (fs:List SFile) (ins:List (List UInt8)):nodeMade n fs ins=[ended (made n.c (lines (ins.head?.getD [])))]:=by unfold nodeMade;rw [if_neg (by omega),if_neg (by omega),if_pos h]
theorem made_four {n:SNode} (h:n.kind=4) (fs:List SFile) (ins:List (List UInt8)):nodeMade n fs ins=[ended (joined n.how n.c (ins.map lines))]:=by unfold nodeMade;rw [if_neg (by omega),if_neg (by omega),if_neg (by omega),if_pos h]
theorem made_five {n:SNode} (h:n.kind=5) (fs:List SFile) (ins:List (List UInt8)):nodeMade n fs ins=[]:=by unfold nodeMade;rw [if_neg (by omega),if_neg (by omega),if_neg (by omega),if_neg (by omega)]
set_option maxRecDepth 100000 in
set_option maxHeartbeats 8000000 in
theorem made_sink (n:SNode) (ai ao:Option Addr) (ni ci cap:Nat) (fs:List SFile) (v:Value) (ins:List (List UInt8)) (w:World) (hk:n.kind=5) (hv:RList w v U ins) :
 Calls Tryz.prog 95 #[nodeV n ai ni ci,.slice ao fs.length cap,v] w fun e w'=>MadeEnd w (nodeMade n fs ins) e w':=by
 rw [made_five hk]
 unfold nodeV
 rw [hk]
 obtain ⟨av,cv,rfl,_,_⟩:=hv.shape
 generalize (⟨n.file.toArray⟩:ByteArray)=fx
 generalize (⟨n.c.word.toArray⟩:ByteArray)=wx0
 generalize n.c.kind=ck
 generalize n.c.n=cn
 generalize n.how=hw
 generalize n.wide=wd
 clear hv
 go_enter Tryz.func95,Tryz.ntmps95
 go_wp2_with fail
 go_ret2
 exact ⟨none,0,[],rfl,World.ownsRow_nil _ _ _ _,fun j b hj=>by simp at hj,box_of⟩
set_option maxRecDepth 100000 in
set_option maxHeartbeats 8000000 in
theorem made_source (n:SNode) (ai ao:Option Addr) (ni ci cap:Nat) (fs:List SFile) (v:Value) (ins:List (List UInt8)) (w:World) (hk:n.kind=1) (hv:RList w v U ins) (hf:RFiles w (.slice ao fs.length cap) fs) (hfc:fchk fs=0) :
 Calls Tryz.prog 95 #[nodeV n ai ni ci,.slice ao fs.length cap,v] w fun e w'=>MadeEnd w (nodeMade n fs ins) e w':=by
 rw [made_one hk]
 have hlen:(fileOf fs n.file).length<=4000:=by
  unfold fileOf
  cases hq:fs.find? (fun f=>f.name == n.file) with
  | none=>simp
  | some f=>exact (from_all (fchk_zero hfc).2 f (List.mem_of_find?_eq_some hq)).2
 have hel:=ended_lines (fileOf fs n.file)
 have HG:Hid _:=fun (W:World) (h:Below w.heap.size w W)=>get_is ao cap fs n.file W (hf.below h) (fun f hf=>by have:=(from_all (fchk_zero hfc).2 f hf).1;exact word_fits this)
 have hgr:getS fs n.file=(fileOf fs n.file,0):=by unfold getS;rw [if_pos hfc]
 rw [hgr] at HG
 unfold nodeV
 rw [hk]
 obtain ⟨av,cv,rfl,_,_⟩:=hv.shape
 obtain ⟨N,hN⟩:∃ N,N=fs.length:=⟨_,rfl⟩
 rw [<- hN] at HG
 rw [<- hN]
 generalize fileOf fs n.file=fb at *
 generalize (⟨n.file.toArray⟩:ByteArray)=fx at *
 generalize (⟨n.c.word.toArray⟩:ByteArray)=wx0 at *
 generalize n.c.kind=ck at *
 generalize n.c.n=cn at *
 generalize n.how=hw at *
 generalize n.wide=wd at *
 clear hv hf hfc hgr hN
 go_enter Tryz.func95,Tryz.ntmps95
 go_wp2_with fail
 have hQ:=HG.out _ (box_of (w:=w) (o:=.cells #[.int .i64 1,.string fx,.int .i64 ck,.string wx0,.int .i64 cn,.int .i64 hw,.int .i64 wd,.slice ai ni ci] 73))
 refine Calls.mono hQ ?_
 rintro e w1 ⟨a1,c1,rfl,hr1,hb1⟩
 have HB1:Hid (Below w.heap.size w w1):=box_of.trans (hb1.mono (by simp))
 have HA:Hid _:=all_reads _ fb w1 hr1 (by omega)
 simp only
 generalize fb.length=fl at *
 clear hQ hr1 hb1 HG
 go_wp2_with fail
 refine Calls.mono HA.out ?_
 rintro e w2 ⟨r2,rfl,ho2,hb2⟩
 have HB2:Hid (Below w.heap.size w w2):=HB1.out.trans (hb2.mono HB1.out.size)
 have HE:Hid _:=ended_reads r2 (lines fb) w2 (Reads.of_owns ho2) (by omega)
 clear ho2 hb2 HA
 go_wp2_with fail
 refine Calls.mono HE.out ?_
 rintro e w3 ⟨r3,rfl,ho3,hb3⟩
 have HB3:Hid (Below w.heap.size w w3):=HB2.out.trans (hb3.mono HB2.out.size)
 have HR3:Hid (Reads w3 r3 (ended (lines fb)).length ((ended (lines fb)).map U)):=Reads.of_owns ho3
 have HN3:Hid (NewV w.heap.size r3):=(newV_owns ho3).mono HB2.out.size
 obtain ⟨a3,c3,rfl,_,_⟩:=HR3.out.shape
 obtain ⟨l3,hl3⟩:∃ l3,l3=(ended (lines fb)).length:=⟨_,rfl⟩
 rw [<- hl3]
 clear ho3 hb3 HE
 go_wp2_with fail
 go_ret2
 subst hl3
 exact madeEnd_one HB3.out HR3.out HN3.out
end Go.Proofs.YtllgglolcgdehaaGreatDoor
