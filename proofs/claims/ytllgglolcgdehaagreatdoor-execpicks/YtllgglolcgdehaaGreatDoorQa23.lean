/- What the developers' came does. -/
import Derived.Test.YtllgglolcgdehaaGreatDoorQa21
import Derived.Test.YtllgglolcgdehaaGreatDoorQa22
set_option maxRecDepth 100000
set_option maxHeartbeats 16000000
namespace Go.Proofs.YtllgglolcgdehaaGreatDoor
open Go.RowKit Go.Gs Go.Maps
set_option linter.unusedVariables false
variable {G:World->(Nat->Option Own)->Prop}
theorem ck0 (D r:Nat) (O:Nat->Option Own) (d:RD) (i q m:Nat) (n:SNode) (p:SProc) (x:SPipe) (g:List UInt8) (w:World) (h:RunM G w D r O d) (hS:Shape d.M) (hn:d.M.ns[i]? = some n) (hp:d.M.ps[i]? = some p) (hm:p.pos=(m:Int)) (hgm:p.got[m]? = some g) (hg0:g≠[]) (hq:q=b7 d.M.ns i+m) (hx:d.M.pipes[q]? = some x) (Ad:M4 n) (hT:p.got.flatten.length<=241200) (hsm:∀b∈p.out,b.length<=90000000) (hsk:d.M.sunk.length<=90000000) (hE:∀W,Below D w W->t8 W) :
 Calls Tryz.prog 170 #[.pointer (some ⟨r,0,none⟩),.int .i64 i] w fun e w'=>e=.returned (.int .i64 0)/\l6 G w' D r (K9 d.M i n q p)/\Below D w w':=by
 by_cases hk5:n.kind=5
 . exact bW7 D r O d i q m n p x g w h hS hn hp hm hgm hg0 hq hx Ad hT hsm hsk hE hk5
 . by_cases hps:passes n=true
   . exact bW9 D r O d i q m n p x g w h hS hn hp hm hgm hg0 hq hx Ad hT hsm hsk hE hk5 hps
   . exact bW8 D r O d i q m n p x g w h hS hn hp hm hgm hg0 hq hx Ad hT hsm hsk hE hk5 (by simpa using hps)
end Go.Proofs.YtllgglolcgdehaaGreatDoor
