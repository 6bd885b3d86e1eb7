/- What the reference's CheckPipe and SamePipe do. -/
import Derived.Test.YtllgglolcgdehaaGreatDoorJb00
namespace Go.Proofs.YtllgglolcgdehaaGreatDoor
open Go.RowKit Go.Gs
set_option linter.unusedVariables false
set_option maxRecDepth 100000 in
set_option maxHeartbeats 4000000 in
theorem samePipe_ref (ab ac:Option Addr) (ca cc:Nat) (bs:List UInt8) (room:Int) (cl sh:Bool) (w:World) (ha:Reads w (.slice ab bs.length ca) bs.length (bs.map U)) (hc:Reads w (.slice ac bs.length cc) bs.length (bs.map U)) :
 Calls Tryz.prog 36 #[.agg #[.slice ab bs.length ca,.int .i64 room,.bool cl,.bool sh],.agg #[.slice ac bs.length cc,.int .i64 room,.bool cl,.bool sh]] w fun e w'=>e=.returned (.bool true)/\Below w.heap.size w w':=by
 have HO:Hid _:=fun (W:World) (hW:Below w.heap.size w W)=>eqP_is ab ac ca cc bs bs W (Reads.below ha hW) (Reads.below hc hW)
 have hd:decide (bs=bs)=true:=decide_eq_true rfl
 rw [hd] at HO
 generalize bs.length=N at *
 clear ha hc hd
 go_enter Tryz.func36,Tryz.ntmps36
 go_wp2_with fail
 refine Calls.mono (HO.out _ boxr2P) ?_
 rintro e w1 ⟨rfl,hb1⟩
 obtain ⟨x1,x2⟩:=box44P hb1
 obtain ⟨c0,c1,c2,c3⟩:=cells4P x1
 obtain ⟨d0,d1,d2,d3⟩:=cells4P x2
 have HB1:Hid (Below w.heap.size w w1):=boxr2P.trans (hb1.mono boxr2P.size)
 clear hb1 HO x1 x2
 go_wp2_with fail
 go_ret
 exact ⟨rfl,HB1.out⟩
end Go.Proofs.YtllgglolcgdehaaGreatDoor
