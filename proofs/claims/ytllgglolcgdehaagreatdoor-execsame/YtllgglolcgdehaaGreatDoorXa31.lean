/- What the developers' started does. -/
import Derived.Test.YtllgglolcgdehaaGreatDoorXa09
import Derived.Test.YtllgglolcgdehaaGreatDoorXa30
set_option maxRecDepth 100000
set_option maxHeartbeats 16000000
namespace Go.Proofs.YtllgglolcgdehaaGreatDoor
open Go.RowKit Go.Gs Go.Maps
set_option linter.unusedVariables false
theorem allIns_take {ns:List SNode} {k:Nat} {n:SNode} (h:ns[k]? = some n):allIns (ns.take (k+1))=allIns (ns.take k)++n.ins:=by
 rw[List.take_add_one,h]
 simp[allIns]
def StAt (wr:World) (D r b:Nat) (M:SMach) (vN:Value) (L:List (Int × Int)) (k:Nat):Prop:=∃O d,RMem wr D r O (AuxT D d.vI d.vM d.M.ns L k) d/\d.M=M/\d.vN=vN/\d.vM=.map (some b)
theorem mem_take_not {L:List (Int × Int)} {j:Nat} {p:Int × Int} (hn:L.Nodup) (hp:L[j]? = some p):p∉L.take j:=by
 intro hm
 obtain⟨i,hi⟩:=List.getElem?_of_mem hm
 have hil:i<j:=by
  have:=(gSm hi).1
  rw[List.length_take] at this
  omega
 rw[List.getElem?_take_of_lt hil] at hi
 obtain⟨h1,e1⟩:=gSm hi
 obtain⟨h2,e2⟩:=gSm hp
 have f1:=hn.idxOf_getElem i h1
 have f2:=hn.idxOf_getElem j h2
 rw[e1] at f1
 rw[e2] at f2
 omega
theorem port_fresh {ns:List SNode} (g:RightG ns) {k j:Nat} {n:SNode} {p:Int × Int} (hn:ns[k]? = some n) (hp:n.ins[j]? = some p):p∉allIns (ns.take k)++n.ins.take j:=by
 have hj:j<n.ins.length:=(gSm hp).1
 have h1:=allIns_at hn hj
 rw[hp] at h1
 have h2:=mem_take_not g.nodup h1
 have e:(allIns ns).take (firstIn ns k+j)=allIns (ns.take k)++n.ins.take j:=by
  have h3:allIns ns=allIns (ns.take k)++(n.ins++allIns (ns.drop (k+1))):=by
   have hkl:k<ns.length:=(gSm hn).1
   have h4:ns=ns.take k++n::ns.drop (k+1):=by
    rw[<- drop_node hn,List.take_append_drop]
   conv=>lhs;rw[h4]
   rw[allIns_append]
   congr 1
  rw[h3]
  unfold firstIn
  rw[List.take_append,List.take_of_length_le (by omega),Nat.add_sub_cancel_left,List.take_append_of_le_length (by omega)]
 rw[e] at h2
 exact h2
theorem started_is (an af ax ap aS : Option Addr) (cn cf cx cp cs : Nat) (M : SMach) (w : World) (h : RMach w an af ax ap aS cn cf cx cp cs M) (hsm : SmallC M) (hS : Shape M) (hfit : ∀ n ∈ M.ns, FitsN n) :
    Calls Tryz.prog 56 #[machV an af ax ap aS M cn cf cx cp cs] w fun e w' => ∃ D r, e = .returned (.pointer (some ⟨r, 0, none⟩)) ∧ RunAt NoG w' D r M ∧ w.heap.size ≤ D ∧ Below w.heap.size w w' := by
  have HCL : Hid (∀ W, Below w.heap.size w W → Calls Tryz.prog 59 #[machV an af ax ap aS M cn cf cx cp cs] W fun e w' => ∃ D vN vF vX vP sS X P O, e = .returned (.agg #[vN, vF, vX, vP, sl M.sunk sS]) ∧ (∀ vI vM, Raw w' D O ⟨M, vN, vF, vX, vP, vI, vM, sS, X, P⟩) ∧ W.heap.size ≤ D ∧ Below W.heap.size W w') := (show ∀ W, _ from fun W hW => clonedE_is an af ax ap aS cn cf cx cp cs M W (h.below hW) hsm)
  have HS : Hid (Shape M) := hS
  have HFIT : Hid (∀ n ∈ M.ns, FitsN n) := hfit
  have h60 : M.ns.length ≤ 60 := hS.g.le60
  unfold machV at HCL ⊢
  obtain ⟨NN, hNN⟩ : ∃ z, z = M.ns.length := ⟨_, rfl⟩
  obtain ⟨NF, hNF⟩ : ∃ z, z = M.fs.length := ⟨_, rfl⟩
  obtain ⟨NX, hNX⟩ : ∃ z, z = M.pipes.length := ⟨_, rfl⟩
  obtain ⟨NP, hNP⟩ : ∃ z, z = M.ps.length := ⟨_, rfl⟩
  obtain ⟨NS, hNS⟩ : ∃ z, z = M.sunk.length := ⟨_, rfl⟩
  have HL : Hid (NN = M.ns.length ∧ NF = M.fs.length ∧ NX = M.pipes.length ∧ NP = M.ps.length ∧ NS = M.sunk.length) := ⟨hNN, hNF, hNX, hNP, hNS⟩
  rw [← hNN, ← hNF, ← hNX, ← hNP, ← hNS] at HCL ⊢
  rw [← hNN] at h60
  clear h hsm hS hfit hNN hNF hNX hNP hNS
  go_enter Tryz.func56, Tryz.ntmps56
  go_wp2_with fail
  refine Calls.mono (HCL.out _ boxE) ?_
  rintro e w1 ⟨D, vN, vF, vX, vP, sS, X, P, O, rfl, hraw, hD, hb1⟩
  have hRI := hraw (.slice none 0 0) (.map (some w1.heap.size))
  obtain ⟨w0, _, _, hrn, hrf⟩ := hRI.base
  obtain ⟨aN, cN, hvN, hcN1, hcN2⟩ := hrn.shape
  obtain ⟨aF, cF, hvF, _, _⟩ := hrf.shape
  obtain ⟨⟨aX, cX, hvX, _, _⟩, _⟩ := owns_formE (hRI.part .pipes (by simp) (by simp)).1
  obtain ⟨⟨aP, cP, hvP, _, _⟩, _⟩ := owns_formE (hRI.part .procs (by simp) (by simp)).1
  simp only at hvN hvF hvX hvP hcN1
  obtain ⟨O1, hR1⟩ := raw_run hRI rfl rfl
  simp only at hR1
  subst hvN hvF hvX hvP
  rw [← HL.out.1] at hcN1
  have hcN2' : cN ≤ 9223372036854775807 := by unfold maxLen at hcN2; exact hcN2
  obtain ⟨W3, hW3⟩ : ∃ W, W = (w1.alloc (.map #[] 0)).alloc (.cells #[.slice aN M.ns.length cN, .slice aF M.fs.length cF, .slice aX M.pipes.length cX, .slice aP M.ps.length cP, sl M.sunk sS, .slice none 0 0, .map (some w1.heap.size)] 111) := ⟨_, rfl⟩
  rw [← hW3] at hR1
  have hbox := hR1.box.1
  have HST : Hid (StAt W3 D (w1.heap.size + 1) w1.heap.size M (.slice aN M.ns.length cN) [] 0) := (show StAt _ _ _ _ _ _ _ _ from ⟨O1, ⟨M, .slice aN M.ns.length cN, .slice aF M.fs.length cF, .slice aX M.pipes.length cX, .slice aP M.ps.length cP, .slice none 0 0, .map (some w1.heap.size), sS, X, P⟩, hR1, rfl, rfl, rfl⟩)
  have hB3 : Below w.heap.size w W3 := by
    rw [hW3]
    have h1 : Below w.heap.size w w1 := boxE.trans (hb1.mono boxE.size)
    exact (h1.alloc h1.size _).alloc (by have := h1.size; simp; omega) _
  have HB3 : Hid (Below w.heap.size w W3) := hB3
  have HD : Hid (w.heap.size ≤ D) := (show _ ≤ _ by have : (w.alloc (.cells #[.slice an NN cn, .slice af NF cf, .slice ax NX cx, .slice ap NP cp, .slice aS NS cs] 30)).heap.size = w.heap.size + 1 := by simp
                                                    omega)
  obtain ⟨b0, b1, b2, b3, b4, b5, b6⟩ := cells7 hbox
  unfold sl at hW3
  simp only at hW3 b0
  rw [← HL.out.1, ← HL.out.2.1, ← HL.out.2.2.1, ← HL.out.2.2.2.1, ← HL.out.2.2.2.2] at hW3
  rw [← HL.out.1] at HST
  rw [← HL.out.1] at b0
  unfold sl
  rw [← HL.out.1, ← HL.out.2.1, ← HL.out.2.2.1, ← HL.out.2.2.2.1, ← HL.out.2.2.2.2]
  clear hraw hRI hrn hrf hR1 hbox hD hb1 hB3 hcN2 b1 b2 b3 b4 b5 b6 HCL
  have hmm := @run_makeMap Tryz.prog
  go_upto_region 2 with fail
  rw [← hW3]
  clear hW3 hmm
  go_wp2_with fail
  clear b0
  go_loopw [4, 21] (fun zp zi wr => ∃ k : Nat, k ≤ NN ∧ zp = .int .i64 (firstIn M.ns k : Int) ∧ zi = .int .i64 k ∧ Hid (StAt wr D (w1.heap.size + 1) w1.heap.size M (.slice aN NN cN) (allIns (M.ns.take k)) k) ∧ Hid (Below w.heap.size w wr)) (fun _ zi _ => NN - (intOf zi).toNat)
  case atStart => exact ⟨0, Nat.zero_le _, by rw [firstIn_zero]; rfl, rfl, HST, HB3⟩
  case round =>
    obtain ⟨k, hk, rfl, rfl, hst, hbel⟩ := hrel
    clear HST HB3
    by_cases hlt : k < NN
    . obtain ⟨O, d, hR, eM, eN, eMap⟩ := hst.out
      clear hst
      obtain ⟨n, hn⟩ : ∃ n, M.ns[k]? = some n := ⟨_, List.getElem?_eq_getElem (by have := HL.out.1; omega)⟩
      obtain ⟨w0, q1, q2, q3, q4⟩ := hR.base
      rw [eN, eM] at q3
      obtain ⟨nb, noff, ai, ci, e1, hNA, hrp⟩ := q3.at hn
      subst e1
      subst q1
      have hNA' := hNA.below q2
      obtain ⟨c0, c1, c2, c3, c4, c5, c6, c7⟩ := hNA'
      have HRP : Hid (∀ W, Below w0.heap.size wr W → RPorts W (.slice ai n.ins.length ci) n.ins) := (show ∀ W, _ from fun W hW => hrp.below (q2.trans hW))
      have hil : n.ins.length ≤ 5 := (right_ins (HS.out.g.node n (List.mem_of_getElem? hn))).1
      have hfk : firstIn M.ns k ≤ 300 := by
        have := pipes300 HS.out
        rw [HS.out.xlen] at this
        have h2 : firstIn M.ns k ≤ (allIns M.ns).length := by
          have := firstIn_le (ns := M.ns) (i := k) (j := M.ns.length) (by have := HL.out.1; omega)
          have e : firstIn M.ns M.ns.length = (allIns M.ns).length := by unfold firstIn; rw [List.take_length]
          omega
        omega
      have HN : Hid (M.ns[k]? = some n) := hn
      have hsuc := firstIn_succ hn
      obtain ⟨_, _, _, _, _, b5, b6⟩ := cells7 hR.box.1
      rw [eMap] at b6
      obtain ⟨hA1, _⟩ := hR.part .aux
      obtain ⟨⟨aI, cI, hvI, _, _⟩, _⟩ := owns_formE hA1
      obtain ⟨IL, hIL⟩ : ∃ z, z = n.ins.length := ⟨_, rfl⟩
      have HIL : Hid (IL = n.ins.length) := hIL
      rw [← hIL] at c7 HRP hil hsuc
      obtain ⟨fx, hfx⟩ : ∃ z, z = (⟨n.file.toArray⟩ : ByteArray) := ⟨_, rfl⟩
      obtain ⟨wx0, hwx⟩ : ∃ z, z = (⟨n.c.word.toArray⟩ : ByteArray) := ⟨_, rfl⟩
      rw [← hfx] at c1
      rw [← hwx] at c3
      generalize n.kind = n0 at *
      generalize n.c.kind = n2 at *
      generalize n.c.n = n4 at *
      generalize n.how = n5 at *
      generalize n.wide = n6 at *
      obtain ⟨FI, hFI⟩ : ∃ z, z = firstIn M.ns k := ⟨_, rfl⟩
      have HFI : Hid (FI = firstIn M.ns k) := hFI
      rw [← hFI] at hfk hsuc ⊢
      obtain ⟨W1, hW1⟩ : ∃ W, W = wr.alloc (.cells #[.int .i64 n0, .string fx, .int .i64 n2, .string wx0, .int .i64 n4, .int .i64 n5, .int .i64 n6, .slice ai IL ci] 73) := ⟨_, rfl⟩
      obtain ⟨W2, hW2⟩ : ∃ W, W = W1.alloc (.cells #[.int .i64 FI] 3) := ⟨_, rfl⟩
      have hb1 : Below wr.heap.size wr W1 := by rw [hW1]; exact boxE
      have hb2 : Below wr.heap.size wr W2 := by rw [hW2]; exact hb1.alloc hb1.size _
      have hs1 : W1.heap.size = wr.heap.size + 1 := by rw [hW1]; simp
      have hs2 : W2.heap.size = wr.heap.size + 2 := by rw [hW2]; simp; omega
      have hbx1 : W2.heap[wr.heap.size]? = some (.cells #[.int .i64 n0, .string fx, .int .i64 n2, .string wx0, .int .i64 n4, .int .i64 n5, .int .i64 n6, .slice ai IL ci] 73 (0, 0)) := by
        rw [hW2, heap_alloc_old _ _ (by omega), hW1]
        exact heap_alloc_new _ _
      have hbx2 : W2.heap[wr.heap.size + 1]? = some (.cells #[.int .i64 FI] 3 (0, 0)) := by
        rw [hW2, ← hs1]
        exact heap_alloc_new _ _
      have hR2 := RMem.below hR hb2
      have hcI : W2.cell? ⟨wr.heap.size + 1, 0, none⟩ = some (.int .i64 (FI : Int)) := by rw [cell_of_row _ _ _ _ _ _ hbx2]; rfl
      obtain ⟨v', w', O', hrun, ⟨a', c', hv'⟩, hbw, hsw, hrr, hkp, hR3⟩ := RMem.firstUp hR2 (by omega) (c := 1) (m := (FI : Int)) (by rw [eM, hFI]) hcI 45
      subst hv'
      have hOn : ∀ g, wr.heap.size ≤ g → O g ≠ some .aux := fun g hg e => by have := (hR.lo g _ e).2; omega
      have hbx1' := (hkp wr.heap.size (by omega) (hOn _ (Nat.le_refl _))).trans hbx1
      have hrb := hrr.trans hR2.box.1
      have hfz5 : w'.frozen? ⟨w1.heap.size + 1, 5, none⟩ = false := frozen_of_row _ _ _ _ _ hrb
      obtain ⟨_, _, _, _, _, d5, _⟩ := cells7 hrb
      obtain ⟨W3x, hW3x⟩ : ∃ W, W = w'.setCell ⟨w1.heap.size + 1, 5, none⟩ (.slice a' (k + 1) c') := ⟨_, rfl⟩
      rw [← hW3x] at hR3
      have hrne : w1.heap.size + 1 < wr.heap.size := (hR.lo _ _ hR.box.2).2
      have hbx3 : W3x.heap[wr.heap.size]? = some (.cells #[.int .i64 n0, .string fx, .int .i64 n2, .string wx0, .int .i64 n4, .int .i64 n5, .int .i64 n6, .slice ai IL ci] 73 (0, 0)) := by
        rw [hW3x]
        exact (Below.heap_setCell _ _ _ _ (by show wr.heap.size ≠ w1.heap.size + 1; omega)).trans hbx1'
      have hDr : w0.heap.size ≤ w1.heap.size + 1 := (hR.lo _ _ hR.box.2).1
      have hB3x : Below w0.heap.size wr W3x := by
        rw [hW3x]
        exact ((hb2.mono hR.le).trans hbw).setCell hDr _
      have HB3x : Hid (Below w0.heap.size wr W3x) := hB3x
      have HST3 : Hid (StAt W3x w0.heap.size (w1.heap.size + 1) w1.heap.size M (.slice (some ⟨nb, noff, none⟩) NN cN) (allIns (M.ns.take k)) (k + 1)) := (show StAt _ _ _ _ _ _ _ _ from ⟨O', d.withI (.slice a' (k + 1) c'), hR3, eM, eN, eMap⟩)
      obtain ⟨_, _, _, _, _, _, _, i7⟩ := cells8E hbx3
      have HRUN : Hid _ := hrun
      rw [hvI] at HRUN b5 d5
      have HB2w : Hid (Below w.heap.size w W3x) := hbel.out.trans (hB3x.mono HD.out)
      have HNB : Hid (M.ns.length = NN) := HL.out.1.symm
      rw [hW2, hW1] at HRUN
      have fb5 := fun o => ((boxE (w := wr) (o := o)).cell (World.block_lt_of_cell? wr _ b5)).trans b5
      clear hR hR2 hR3 hrp q2 q3 q4 hNA hn eM eN hA1 hvI hb1 hb2 hbx1 hbx2 hcI hbw hkp hOn hbx1' hrr hrb hbx3 hB3x hrun hIL hfx hwx hFI hs1 hs2 hbel eMap b6 hDr hsw hW1 hW2
      go_upto_region 7 with (at_builtin; refine wpList_append_isE _ rfl (.tmp 29) (.tmp 31) 45 rfl _ _ rfl rfl HRUN.out ?_)
      rw [← hW3x]
      clear fb5 hW3x HRUN c0 c1 c2 c3 c4 c5 c6 c7 b5 d5 hfz5
      go_wp2_with fail
      clear i7
      go_loopw [4, 38] (fun zp zj wx => ∃ j : Nat, j ≤ IL ∧ zp = .int .i64 ((FI : Int) + (j : Int)) ∧ zj = .int .i64 j ∧ Hid (StAt wx w0.heap.size (w1.heap.size + 1) w1.heap.size M (.slice (some ⟨nb, noff, none⟩) NN cN) (allIns (M.ns.take k) ++ n.ins.take j) (k + 1)) ∧ Hid (Below w0.heap.size wr wx) ∧ Hid (Below w.heap.size w wx)) (fun _ zj _ => IL - (intOf zj).toNat)
      case atStart => exact ⟨0, Nat.zero_le _, by simp, rfl, (show StAt _ _ _ _ _ _ _ _ by simpa using HST3.out), HB3x, HB2w⟩
      case round =>
        obtain ⟨j, hj, rfl, rfl, hst, hbx, hbelx⟩ := hrel
        clear HST3 HB3x HB2w
        by_cases hltj : j < IL
        . obtain ⟨p, hp⟩ : ∃ p, n.ins[j]? = some p := ⟨_, List.getElem?_eq_getElem (by have := HIL.out; omega)⟩
          obtain ⟨O, d, hR, eM, eN, eMap⟩ := hst.out
          have hrpx := HRP.out _ hbx.out
          obtain ⟨pb, poff, e2, p0, p1⟩ := hrpx.at hp
          subst e2
          have hpl := rports_le hrpx
          obtain ⟨_, _, _, _, _, _, b6⟩ := cells7 hR.box.1
          rw [eMap] at b6
          have hwfp : WfP p := (HFIT.out n (List.mem_of_getElem? HN.out)).2.2 p (List.mem_of_getElem? hp)
          have hnot : p ∉ allIns (M.ns.take k) ++ n.ins.take j := port_fresh HS.out.g HN.out hp
          have hLl : (allIns (M.ns.take k) ++ n.ins.take j).length = FI + j := by
            rw [List.length_append, List.length_take, HFI.out]
            unfold firstIn
            have := HIL.out
            omega
          have htk : allIns (M.ns.take k) ++ n.ins.take j ++ [p] = allIns (M.ns.take k) ++ n.ins.take (j + 1) := by
            rw [List.append_assoc]
            congr 1
            rw [List.take_add_one, hp]
            rfl
          have hUP : ∀ W, Below wr.heap.size wr W → ∃ w', (Instr.mapUpdate 109 (.map (some w1.heap.size)) (.agg #[.int .i64 p.1, .int .i64 p.2]) (.int .i64 ((FI : Int) + (j : Int)))).run Tryz.prog W = .ok () w' ∧ Hid (StAt w' w0.heap.size (w1.heap.size + 1) w1.heap.size M (.slice (some ⟨nb, noff, none⟩) NN cN) (allIns (M.ns.take k) ++ n.ins.take (j + 1)) (k + 1)) ∧ Hid (Below w0.heap.size wr w') := by
            intro W hW
            obtain ⟨w', h1, h2, h3, h4⟩ := RMem.intoUp (RMem.below hR hW) eMap (by rw [hLl]; omega) hwfp hnot (m := ((FI : Int) + (j : Int))) (by rw [hLl]; omega)
            rw [htk] at h4
            exact ⟨w', h1, (show StAt _ _ _ _ _ _ _ _ from ⟨O, d, h4, eM, eN, eMap⟩), (hW.mono hR.le).trans h2⟩
          have HDR : Hid (w0.heap.size ≤ wr.heap.size) := hR.le
          obtain ⟨q1, q2⟩ := p
          simp only at p0 p1 hUP
          have hb0 : Below wr.heap.size wr (wr.alloc (.cells #[.int .i64 q1, .int .i64 q2] 79)) := boxE
          obtain ⟨y1, u1', s1, t1⟩ := hUP _ hb0.drew
          have fb6 := fun o => ((boxE (w := wr) (o := o)).cell (World.block_lt_of_cell? wr _ b6)).trans b6
          clear hst hR eM eN eMap hrpx hp hwfp hnot hLl htk hUP hb0
          go_wp2_with fail
          go_region
          have hwr : IntKind.i64.wrap ((FI : Int) + (j : Int) + 1) = (FI : Int) + ((j + 1 : Nat) : Int) := by rw [IntKind.wrap_i64]; omega
          have HB4 : Hid (Below w.heap.size w y1) := hbelx.out.trans (t1.out.mono HD.out)
          clear u1' fb6 b6 p0 p1 hpl
          all_goals go_wp2_with fail
          all_goals go_roundw
          case rel => exact ⟨j + 1, by omega, by first | rfl | (congr 1; omega) | go_num, by go_num, s1, (hbx.out.trans t1.out), HB4⟩
          case measure => simp [intOf]; omega
        . have e5 : j = IL := by omega
          have HST5 : Hid (StAt wr w0.heap.size (w1.heap.size + 1) w1.heap.size M (.slice (some ⟨nb, noff, none⟩) NN cN) (allIns (M.ns.take (k + 1))) (k + 1)) := (show StAt _ _ _ _ _ _ _ _ by
            have h1 := hst.out
            rw [e5, HIL.out, List.take_length] at h1
            rw [allIns_take HN.out]
            exact h1)
          have hfj : (FI : Int) + (j : Int) = ((firstIn M.ns (k + 1) : Nat) : Int) := by omega
          clear hst
          go_wp2_with fail
          go_roundw
          case rel => exact ⟨k + 1, by omega, by rw [hfj], by go_num, HST5, hbelx⟩
          case measure => simp [intOf]; omega
    . have e6 : k = NN := by omega
      have HEND : Hid (RunAt NoG wr D (w1.heap.size + 1) M) := (show RunAt NoG _ _ _ _ by
        obtain ⟨O, d, hR, eM, eN, eMap⟩ := hst.out
        rw [e6, HL.out.1, List.take_length] at hR
        refine ⟨O, d, ?_, eM⟩
        have h2 := hR.part .aux
        rw [← eM] at h2
        have hA : AuxF D d.vI d.vM d.M.ns wr O := auxT_end h2
        exact hR.auxTo (auxG_ok D d.vI d.vM d.M.ns noG_ok) ⟨hA, trivial⟩)
      clear hst
      go_wp2_with fail
      go_ret
      exact ⟨D, w1.heap.size + 1, rfl, HEND.out, HD.out, hbel.out⟩
end Go.Proofs.YtllgglolcgdehaaGreatDoor
