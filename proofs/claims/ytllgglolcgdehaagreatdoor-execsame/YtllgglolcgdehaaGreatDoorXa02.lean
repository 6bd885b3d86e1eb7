/- Ports as keys of a map that a call makes. -/
import Derived.Maps.Own
import Derived.Maps.OwnOps
import Derived.Maps.OwnSet
import Derived.Maps.Views
import Derived.DeepKeys4
import Derived.MapViews
import Derived.ChangeSame
import Derived.Test.YtllgglolcgdehaaGreatDoorXa00
set_option maxRecDepth 100000
set_option maxHeartbeats 16000000
namespace Go.Proofs.YtllgglolcgdehaaGreatDoor
open Go.RowKit Go.Gs Go.Maps Go.ChangeShapes Go.WideShapes
set_option linter.unusedVariables false
theorem portWide:(match Tryz.prog.underlying 79 with | some (.array _ _) | some (.struct _)=>true | _=>false)=true:=by rw[Tryz.underlying79]
theorem portAt2:Tryz.prog.keyTypeAt 2 79 = true:=by kernel_rfl
theorem portTiled:Tryz.prog.tiled 2 79 = true:=by kernel_rfl
theorem portLaw:Go.WideMaps.KeyLaw Tryz.prog 79:=deep_law (m:=2) (by omega) portAt2 portTiled portWide
theorem portKeyed:Keyed Tryz.prog 79:=Keyed.of_law portLaw
theorem portDeep:Tryz.prog.keyTypeAt (Tryz.prog.types.size+1) 79 = true:=by kernel_rfl
theorem portCells:Tryz.prog.cellsOf 79 = 2:=by kernel_rfl
def portV (p:Int × Int):Value:=.agg #[.int .i64 p.1,.int .i64 p.2]
theorem portFormed (p:Int × Int):(portV p).formed Tryz.prog 79 = true:=by simp[portV,Value.formed,Tryz.underlying79,portCells]
def WfP (p:Int × Int):Prop:=(Lit.int .i64 p.1).wf=true/\(Lit.int .i64 p.2).wf=true
theorem intCells:Tryz.prog.cellsOf 3 = 1:=by kernel_rfl
theorem port_trod (w:World) (p:Int × Int) (h:WfP p):DataW.Trod (H:=Unit) (fun _=>()) Tryz.prog w 0 (fun _=>true) false 79 (portV p) (.agg [.lit (.int .i64 p.1),.lit (.int .i64 p.2)]) []:=by
 refine⟨2,?_⟩
 have:=trod_struct2_mk (H:=Unit) (enc:=fun _=>()) (P:=Tryz.prog) (w:=w) (base:=0) (spare:=fun _=>true) (held:=false) (n:=1) (cs:=[.int .i64 p.1,.int .i64 p.2]) (y0:=(.lit (.int .i64 p.1),[])) (y1:=(.lit (.int .i64 p.2),[])) Tryz.underlying79 (by rw[portCells];rfl)
  (by simp only[intCells];exact trod_int_mk 0 Tryz.underlying3 h.1) (by simp only[intCells];exact trod_int_mk 0 Tryz.underlying3 h.2)
 simpa[portV,Value.cells] using this
def portK (p:Int × Int):Lit:=(DataW.agg [.lit (.int .i64 p.1),.lit (.int .i64 p.2)]:DataW Unit).asKey
theorem port_key (w:World) (p:Int × Int) (h:WfP p):keyOf Tryz.prog 79 (portV p)=some (portK p):=(keyOf_asKey portDeep portWide (portFormed p) (port_trod w p h)).1
theorem portK_inj (w:World) {p q:Int × Int} (hp:WfP p) (hq:WfP q) (h:portK p=portK q):p=q:=by
 have h1:=port_key w p hp
 have h2:=port_key w q hq
 rw[<- h] at h2
 have:=keyOf_inj_deep portTiled portWide h1 h2
 simp only[portV,Value.agg.injEq,Array.mk.injEq,List.cons.injEq,Value.int.injEq,true_and,and_true] at this
 exact Prod.ext this.1 this.2
theorem portK_key (w:World) (p:Int × Int) (h:WfP p):WideAt.IsKeyLit (portK p):=portKeyed.key (port_key w p h)
def PortsAre (w:World) (R:Value->Option (DataW Unit × List MemPlace)) (b n:Nat) (t:List (Int × Int)):Prop:=
 ∃D:DataW Unit,w.ownsMap Tryz.prog 79 R b n D/\(∀p,WfP p->Go.Maps.has D (portK p)=decide (p∈t))/\Go.Maps.size D=t.length /\ ∀p∈t,WfP p
end Go.Proofs.YtllgglolcgdehaaGreatDoor
