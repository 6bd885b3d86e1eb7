/- slices.ContainsFunc at lists of bytes; what the developers' tooMany, inputs do. -/
import Derived.Shelf.Abstract
import Derived.Test.YtllgglolcgdehaaGreatDoorXa01
set_option maxRecDepth 100000
set_option maxHeartbeats 16000000
namespace Go.Proofs.YtllgglolcgdehaaGreatDoor
open Go.RowKit Go.Gs
set_option linter.unusedVariables false
theorem tooMany_is (ab:Option Addr) (n cap:Nat) (w:World) :
 Calls Tryz.prog 68 #[.slice ab n cap] w fun e w'=>e=.returned (.bool (decide (40000<n)))/\Below w.heap.size w w':=by
 have hz:decide (40000<(n:Int))=decide (40000<n):=by
  by_cases h:40000<n
  . rw[decide_eq_true h,decide_eq_true (by omega)]
  . rw[decide_eq_false h,decide_eq_false (by omega)]
 by_cases h:40000<n
 .
  have h':40000<(n:Int):=by omega
  rw[decide_eq_true h]
  go_enter Tryz.func68,Tryz.ntmps68
  go_wp2_with fail
  go_ret
  exact⟨by first | rfl | (simp[h']),Below.refl _ _⟩
 .
  have h':¬40000<(n:Int):=by omega
  rw[decide_eq_false h]
  go_enter Tryz.func68,Tryz.ntmps68
  go_wp2_with fail
  go_ret
  exact⟨by first | rfl | (simp[h']),Below.refl _ _⟩
theorem some1_is (ab:Option Addr) (n cap:Nat) (w:World) :
 Calls Tryz.prog 117 #[.slice ab n cap] w fun e w'=>e=.returned (.bool (decide (0<n)))/\Below w.heap.size w w':=by
 by_cases h:0<n
 .
  have h':0<(n:Int):=by omega
  rw[decide_eq_true h]
  go_enter Tryz.func117,Tryz.ntmps117
  go_wp2_with fail
  go_ret
  exact⟨by first | rfl | (simp[h']),Below.refl _ _⟩
 .
  have h':¬0<(n:Int):=by omega
  rw[decide_eq_false h]
  go_enter Tryz.func117,Tryz.ntmps117
  go_wp2_with fail
  go_ret
  exact⟨by first | rfl | (simp[h']),Below.refl _ _⟩
theorem indexL_is (F:Nat) (t:Nat->Bool) (hF:∀(ab:Option Addr) (n cap:Nat) (w:World),Calls Tryz.prog F #[.slice ab n cap] w fun e w'=>e=.returned (.bool (t n))/\Below w.heap.size w w')
 (hE:∀args w,(callFunc F args).run Tryz.prog w=.ok (.enter F args) w)
 (al:Option Addr) (cl:Nat) (pss:List (List UInt8)) (w:World) (hl:RList w (.slice al pss.length cl) U pss) :
 Calls Tryz.prog 164 #[.slice al pss.length cl,.func (.func F) #[] #[]] w fun e w'=>∃i:Int,e=.returned (.int .i64 i)/\(pss.any (fun b=>t b.length)=true ↔ 0<=i)/\Below w.heap.size w w':=by
 have hle:=rlist_le hl
 have HL:Hid (RList w (.slice al pss.length cl) U pss):=hl
 have HF:Hid _:=hF
 obtain⟨M,hM⟩:∃M,M=pss.length:=⟨_,rfl⟩
 have HM:Hid (M=pss.length):=hM
 rw[<- hM] at HL hle ⊢
 clear hl hM hF
 go_enter Tryz.func164,Tryz.ntmps164
 go_wp2_with fail
 go_loopw [8] (fun i wr=>∃k:Nat,k<=M/\i=.int .i64 k/\Hid (Below w.heap.size w wr)/\Hid (∀b∈pss.take k,t b.length=false)) (fun i _=>M-(intOf i).toNat)
 case atStart=>exact⟨0,Nat.zero_le _,rfl,Below.refl _ _,(show ∀b∈pss.take 0,t b.length=false by simp)⟩
 case round=>
  obtain⟨k,hk,rfl,hbel,hno⟩:=hrel
  by_cases hlt:k<M
  .
   obtain⟨x,hx⟩:∃x,pss[k]? = some x:=⟨_,gEl (by have:=HM.out;omega)⟩
   have HX:Hid (pss[k]? = some x):=hx
   obtain⟨b,off,au,cu,rfl,hc0,hr⟩:=(RList.below HL.out hbel.out).at hx
   have HC:Hid _:=HF.out au x.length cu wr
   obtain⟨d,hdd⟩:∃d,d=t x.length:=⟨_,rfl⟩
   have HD2:Hid (d=true->pss.any (fun b=>t b.length)=true):=(show d=true->pss.any (fun b=>t b.length)=true from fun h=>List.any_eq_true.2 ⟨x,mGt hx,hdd.symm.trans h⟩)
   have HD3:Hid (d=false -> ∀b∈pss.take (k+1),t b.length=false):=(show d=false -> ∀b∈pss.take (k+1),t b.length=false from fun h b hb=>by
    rw[List.take_add_one,hx] at hb
    rcases List.mem_append.1 hb with hb | hb
    . exact hno.out b hb
    . simp at hb
      rw[hb]
      exact hdd.symm.trans h)
   rw[<- hdd] at HC
   generalize x.length=NX at *
   clear hx hr hdd
   go_wp2_with fail
   refine Calls.mono HC.out ?_
   rintro e w3 ⟨rfl,hb3⟩
   have HB3:Hid (Below w.heap.size w w3):=hbel.out.trans (hb3.mono hbel.out.size)
   clear hb3 HC hc0
   cases d with
   | true=>
    go_wp2_with fail
    go_ret
    exact⟨_,rfl,⟨fun _=>by omega,fun _=>HD2.out trivial⟩,HB3.out⟩
   | false=>
    go_wp2_with fail
    go_roundw
    case rel=>exact⟨k+1,by omega,by go_num,HB3,HD3.out trivial⟩
    case measure=>simp[intOf];omega
  .
   have HN:Hid (pss.any (fun b=>t b.length)=false):=(show _=_ by
    rw[List.any_eq_false]
    intro b hb e
    have h1:=hno.out b (by rw[List.take_of_length_le (by have:=HM.out;omega)];exact hb)
    rw[h1] at e
    cases e)
   clear hno
   go_wp2_with fail
   go_ret
   exact⟨_,rfl,⟨fun e=>(by rw[HN.out] at e;cases e),fun e=>absurd e (by omega)⟩,hbel.out⟩
theorem containsL_is (F:Nat) (t:Nat->Bool) (hF:∀(ab:Option Addr) (n cap:Nat) (w:World),Calls Tryz.prog F #[.slice ab n cap] w fun e w'=>e=.returned (.bool (t n))/\Below w.heap.size w w')
 (hE:∀args w,(callFunc F args).run Tryz.prog w=.ok (.enter F args) w)
 (al:Option Addr) (cl:Nat) (pss:List (List UInt8)) (w:World) (hl:RList w (.slice al pss.length cl) U pss) :
 Calls Tryz.prog 116 #[.slice al pss.length cl,.func (.func F) #[] #[]] w fun e w'=>e=.returned (.bool (pss.any (fun b=>t b.length)))/\Below w.heap.size w w':=by
 have HI:Hid _:=indexL_is F t hF hE al cl pss w hl
 generalize pss.any (fun b=>t b.length)=A at *
 generalize pss.length=N at *
 clear hF hE hl
 go_enter Tryz.func116,Tryz.ntmps116
 go_wp2_with fail
 refine Calls.mono HI.out ?_
 rintro e w1 ⟨i,rfl,hi,hb⟩
 have HB:Hid (Below w.heap.size w w1):=hb
 have HI2:Hid (decide (0<=i)=A):=(show _=_ by
  by_cases h:0<=i
  . rw[decide_eq_true h,hi.2 h]
  . rw[decide_eq_false h]
    cases hA:A with
    | false=>rfl
    | true=>exact absurd (hi.1 hA) h)
 clear hi hb HI
 by_cases h:0<=i
 . go_wp2_with fail
   go_ret
   exact⟨by rw[<- HI2.out];first | rfl | simp[h],HB.out⟩
 . go_wp2_with fail
   go_ret
   exact⟨by rw[<- HI2.out];first | rfl | simp[h],HB.out⟩
theorem anyLong_is (al:Option Addr) (cl:Nat) (pss:List (List UInt8)) (w:World) (hl:RList w (.slice al pss.length cl) U pss) :
 Calls Tryz.prog 116 #[.slice al pss.length cl,.func (.func 68) #[] #[]] w fun e w'=>e=.returned (.bool (anyLong pss))/\Below w.heap.size w w':=
 containsL_is _ (fun n=>decide (40000<n)) tooMany_is (enters_of Tryz.func68 (by kernel_rfl) rfl) al cl pss w hl
theorem anySome_is (al:Option Addr) (cl:Nat) (pss:List (List UInt8)) (w:World) (hl:RList w (.slice al pss.length cl) U pss) :
 Calls Tryz.prog 116 #[.slice al pss.length cl,.func (.func 117) #[] #[]] w fun e w'=>e=.returned (.bool (pss.any (fun b=>!b.isEmpty)))/\Below w.heap.size w w':=by
 have e1:(fun b:List UInt8=>!b.isEmpty)=fun b=>decide (0<b.length):=by
  funext b
  cases b <;> simp
 rw[e1]
 exact containsL_is _ (fun n=>decide (0<n)) some1_is (enters_of Tryz.func117 (by kernel_rfl) rfl) al cl pss w hl
theorem allIns_step {ns:List SNode} {k:Nat} {n:SNode} (h:ns[k]? = some n):(allIns (ns.take (k+1))).length=(allIns (ns.take k)).length+n.ins.length:=by
 rw[List.take_add_one,h]
 simp[allIns]
theorem boxE {w:World} {o:Obj}:Below w.heap.size w (w.alloc o):=(Below.refl _ w).alloc (Nat.le_refl _) o
theorem inputs_is (an:Option Addr) (cn:Nat) (ns:List SNode) (w:World) (hr:RNodes w (.slice an ns.length cn) ns) (hok:∀n∈ns,n.ins.length<=5) (h60:ns.length<=60) :
 Calls Tryz.prog 66 #[.agg #[.slice an ns.length cn]] w fun e w'=>e=.returned (.int .i64 ((allIns ns).length:Int))/\Below w.heap.size w w':=by
 have HR:Hid (RNodes w (.slice an ns.length cn) ns):=hr
 have HOK:Hid (∀n∈ns,n.ins.length<=5):=hok
 obtain⟨N,hN⟩:∃N,N=ns.length:=⟨_,rfl⟩
 have HN:Hid (N=ns.length):=hN
 have HAL:Hid (∀k,(allIns (ns.take k)).length<=5*k):=(show ∀k,(allIns (ns.take k)).length<=5*k by
  intro k
  induction k with
  | zero=>simp[allIns]
  | succ k ih=>
   cases hk:ns[k]? with
   | none=>rw[List.take_add_one,hk];simp;omega
   | some n=>
    rw[allIns_step hk]
    have:=hok n (mGt hk)
    omega)
 rw[<- hN] at h60 HR ⊢
 clear hr hok hN
 go_enter Tryz.func66,Tryz.ntmps66
 go_wp2_with fail
 go_loopw [3,9] (fun s i wr=>∃k t:Nat,k<=N/\i=.int .i64 k/\s=.int .i64 t/\t<=300/\Hid (t=(allIns (ns.take k)).length)/\Hid (Below w.heap.size w wr)) (fun s i _=>N-(intOf i).toNat)
 case atStart=>exact⟨0,0,Nat.zero_le _,rfl,rfl,by omega,(show _=_ by simp[allIns]),boxE⟩
 case round=>
  obtain⟨k,t,hk,rfl,rfl,ht,HT,hbel⟩:=hrel
  by_cases hlt:k<N
  .
   obtain⟨n,hn⟩:∃n,ns[k]? = some n:=⟨_,gEl (by have:=HN.out;omega)⟩
   obtain⟨b,off,ai,ci,rfl,hNA,HP⟩:=HR.out.at hn
   obtain⟨c0,c1,c2,c3,c4,c5,c6,c7⟩:=hNA.below hbel.out
   have h5:n.ins.length<=5:=HOK.out n (mGt hn)
   have HT2:Hid (t+n.ins.length=(allIns (ns.take (k+1))).length):=(show _=_ by rw[allIns_step hn,HT.out])
   have HT3:Hid (t+n.ins.length<=300):=(show _<=_ by rw[HT2.out];have:=HAL.out (k+1);omega)
   generalize n.ins.length=L at *
   generalize (⟨n.file.toArray⟩:ByteArray)=fx at *
   generalize (⟨n.c.word.toArray⟩:ByteArray)=wx0 at *
   generalize n.c.kind=ck at *
   generalize n.c.n=cn' at *
   generalize n.how=hw at *
   generalize n.wide=wd at *
   generalize n.kind=nk at *
   clear hn hNA HP
   go_wp2_with fail
   go_roundw
   case rel=>exact⟨k+1,t+L,by omega,by go_num,by go_num,HT3.out,HT2,hbel.out.trans (boxE.mono hbel.out.size)⟩
   case measure=>simp[intOf];omega
  . have HE:Hid (t=(allIns ns).length):=(show _=_ by rw[HT.out,List.take_of_length_le (by have:=HN.out;omega)])
    clear HT
    go_wp2_with fail
    go_ret
    exact⟨by rw[<- HE.out];rfl,hbel.out⟩
end Go.Proofs.YtllgglolcgdehaaGreatDoor
