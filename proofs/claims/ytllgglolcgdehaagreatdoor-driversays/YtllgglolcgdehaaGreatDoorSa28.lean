/- What the developers' made (of graphs) does: Source, Sink. -/
import Derived.Test.YtllgglolcgdehaaGreatDoorSAb
import Derived.Test.YtllgglolcgdehaaGreatDoorSa27
import Derived.Test.YtllgglolcgdehaaGreatDoorSa25
set_option linter.all false
set_option maxRecDepth 100000
set_option maxHeartbeats 16000000
namespace Go.Proofs.YtllgglolcgdehaaGreatDoor
open Go.RowKit Go.Gs Tryz
def N8(w:World)(outs:List (List UInt8))(e:Ending)(w':World):Prop:=
 ∃ar cr us,e=.returned (.tuple #[.slice ar outs.length cr,.int .i64 0])/\w'.ownsRow w.heap.size 28 1 (.slice ar outs.length cr) outs.length us/\(∀(j:Nat) b,outs[j]? = some b->∃u,us[j]? = some u/\Reads w' u b.length (b.map U)/\NewV w.heap.size u)/\Bq w w'
theorem aq0{w W:World}{u:Value}{b:List UInt8}(hb:Bq w W)(hu:Reads W u b.length (b.map U))(hn:NewV w.heap.size u):
 N8 w [b] (.returned (.tuple #[.slice (some ⟨W.heap.size,0,none⟩) 1 1,.int .i64 0])) (W.alloc (.cells #[u] 28)):=by
 refine⟨some ⟨W.heap.size,0,none⟩,1,[u],rfl,ap7 (qN W _) rfl hb.size (by simp),fun j c hj=>?_,hb.alloc hb.size _⟩
 cases j with
 | zero=>
  simp at hj
  subst hj
  exact⟨u,rfl,hu.below i8,hn⟩
 | succ j=>simp at hj
theorem bV6{s:List UInt8}(h:isWord s=true):s.length<=9223372036854775807:=by unfold isWord at h;simp only[zA,xx]at h;omega
theorem cg4{n:SNode}(h:n.kind=1)(fs:List SFile)(ins:List (List UInt8)):j0 n fs ins=[ended (lines (q8 fs n.file))]:=by unfold j0;rw[qF h]
theorem cg5{n:SNode}(h:n.kind=2)(fs:List SFile)(ins:List (List UInt8)):j0 n fs ins=(List.range n.wide.toNat).map (partOf (ins.head?.getD []) n.wide.toNat):=by unfold j0;rw[qA (by omega),qF h]
theorem aR5{n:SNode}(h:n.kind=3)(fs:List SFile)(ins:List (List UInt8)):j0 n fs ins=[ended (made n.c (lines (ins.head?.getD [])))]:=by unfold j0;rw[qA (by omega),qA (by omega),qF h]
theorem bV7{n:SNode}(h:n.kind=4)(fs:List SFile)(ins:List (List UInt8)):j0 n fs ins=[ended (joined n.how n.c (ins.map lines))]:=by unfold j0;rw[qA (by omega),qA (by omega),qA (by omega),qF h]
theorem bV8{n:SNode}(h:n.kind=5)(fs:List SFile)(ins:List (List UInt8)):j0 n fs ins=[]:=by unfold j0;rw[qA (by omega),qA (by omega),qA (by omega),qA (by omega)]
theorem bV9(n:SNode)(ai ao:Option Addr)(ni ci cap:Nat)(fs:List SFile)(v:Value)(ins:List (List UInt8))(w:World)(hk:n.kind=5)(hv:RList w v U ins):
 Calls prog 95 #[C6 n ai ni ci,.slice ao fs.length cap,v] w fun e w'=>N8 w (j0 n fs ins) e w':=by rw[bV8 hk];unfold C6;rw[hk];obtain⟨av,cv,rfl,_,_⟩:=hv.shape;generalize (⟨n.file.toArray⟩:ByteArray)=fx;generalize (⟨n.c.word.toArray⟩:ByteArray)=wx0;generalize n.c.kind=ck;generalize n.c.n=cn;generalize n.how=hw;generalize n.wide=wd;clear hv;go_enter Tryz.func95,Tryz.ntmps95;go_wp2_with fail;go_ret2;exact⟨none,0,[],rfl,World.ownsRow_nil _ _ _ _,fun j b hj=>by simp at hj,i8⟩
theorem bt5(n:SNode)(ai ao:Option Addr)(ni ci cap:Nat)(fs:List SFile)(v:Value)(ins:List (List UInt8))(w:World)(hk:n.kind=1)(hv:RList w v U ins)(hf:j6 w (.slice ao fs.length cap) fs)(hfc:fchk fs=0):
 Calls prog 95 #[C6 n ai ni ci,.slice ao fs.length cap,v] w fun e w'=>N8 w (j0 n fs ins) e w':=by
 rw[cg4 hk];have hlen:(q8 fs n.file).length<=4000:=by
  unfold q8
  cases hq:fs.find? (fun f=>f.name==n.file) with
  | none=>simp
  | some f=>exact (J2 (G2 hfc).2 f (zW hq)).2
 have hel:=C0 (q8 fs n.file);have HG:Hid _:=fun(W:World)(h:Bq w W)=>cp5 ao cap fs n.file W (hf.below h) (fun f hf=>by have:=(J2 (G2 hfc).2 f hf).1;exact bV6 this);have hgr:getS fs n.file=(q8 fs n.file,0):=by unfold getS;rw[qF hfc]
 rw[hgr]at HG;unfold C6;rw[hk];obtain⟨av,cv,rfl,_,_⟩:=hv.shape;obtain⟨N,hN⟩:=qE fs.length;rw[<- hN]at HG;rw[<- hN];generalize q8 fs n.file=fb at *;generalize (⟨n.file.toArray⟩:ByteArray)=fx at *;generalize (⟨n.c.word.toArray⟩:ByteArray)=wx0 at *;generalize n.c.kind=ck at *;generalize n.c.n=cn at *;generalize n.how=hw at *;generalize n.wide=wd at *;clear hv hf hfc hgr hN;go_enter Tryz.func95,Tryz.ntmps95;go_wp2_with fail;have hQ:=HG.out _ (i8 (w:=w) (o:=.cells #[.int .i64 1,.string fx,.int .i64 ck,.string wx0,.int .i64 cn,.int .i64 hw,.int .i64 wd,.slice ai ni ci] 73));refine qD hQ ?_;rintro e w1⟨a1,c1,rfl,hr1,hb1⟩;have HB1:Hid (Bq w w1):=i8.trans (hb1.mono (by simp));have HA:Hid _:=aq7 _ fb w1 hr1 (by omega);simp only;generalize fb.length=fl at *;clear hQ hr1 hb1 HG;go_wp2_with fail;refine qD HA.out ?_;rintro e w2⟨r2,rfl,ho2,hb2⟩
 have HB2:=qT HB1 hb2;have HE:Hid _:=U7 r2 (lines fb) w2 (Reads.of_owns ho2) (by omega);clear ho2 hb2 HA;go_wp2_with fail;refine qD HE.out ?_;rintro e w3⟨r3,rfl,ho3,hb3⟩;have HB3:=qT HB2 hb3;have HR3:Hid (Reads w3 r3 (ended (lines fb)).length ((ended (lines fb)).map U)):=Reads.of_owns ho3;have HN3:Hid (NewV w.heap.size r3):=(aC9 ho3).mono HB2.out.size;obtain⟨a3,c3,rfl,_,_⟩:=HR3.out.shape;obtain⟨l3,hl3⟩:=qE ((ended (lines fb)).length);rw[<- hl3];clear ho3 hb3 HE;go_wp2_with fail;go_ret2;subst hl3;exact aq0 HB3.out HR3.out HN3.out
end Go.Proofs.YtllgglolcgdehaaGreatDoor
