/- What the developers' started does, and more. -/
import Derived.Test.YtllgglolcgdehaaGreatDoorSAb
import Derived.Orders
import Derived.Test.YtllgglolcgdehaaGreatDoorSa21
import Derived.Test.YtllgglolcgdehaaGreatDoorSa37
set_option linter.all false
set_option maxRecDepth 100000
set_option maxHeartbeats 16000000
namespace Go.Proofs.YtllgglolcgdehaaGreatDoor
open Go.RowKit Go.Gs Go.Maps Tryz
theorem aI2{ns:List SNode}{k:Nat}{n:SNode}(h:ns[k]? = some n):j3 (ns.take (k+1))=j3 (ns.take k)++n.ins:=by rw[qX,h];simp[j3]
def StAt(wr:World)(D r b:Nat)(M:SMach)(vN:Value)(L:List (Int × Int))(k:Nat):Prop:=∃O d,RMem wr D r O (AuxT D d.vI d.vM d.M.ns L k) d/\d.M=M/\d.vN=vN/\d.vM=.map (some b)
theorem bj8{L:List (Int × Int)}{j:Nat}{p:Int × Int}(hn:L.Nodup)(hp:L[j]? = some p):p∉L.take j:=by
 intro hm;obtain⟨i,hi⟩:=qb hm;have hil:i<j:=by have:=(gSm hi).1;rw[qL]at this;omega
 rw[xj hil]at hi;obtain⟨h1,e1⟩:=gSm hi;obtain⟨h2,e2⟩:=gSm hp;have f1:=hn.idxOf_getElem i h1;have f2:=hn.idxOf_getElem j h2;rw[e1]at f1;rw[e2]at f2;omega
theorem bG6{ns:List SNode}(g:RightG ns){k j:Nat}{n:SNode}{p:Int × Int}(hn:ns[k]? = some n)(hp:n.ins[j]? = some p):p∉j3 (ns.take k)++n.ins.take j:=by
 have hj:j<n.ins.length:=(gSm hp).1;have h1:=ai5 hn hj;rw[hp]at h1;have h2:=bj8 g.nodup h1;have e:(j3 ns).take (b7 ns k+j)=j3 (ns.take k)++n.ins.take j:=by
  have h3:j3 ns=j3 (ns.take k)++(n.ins++j3 (ns.drop (k+1))):=by
   have hkl:k<ns.length:=(gSm hn).1;have h4:ns=ns.take k++n::ns.drop (k+1):=by rw[<- Q6 hn,qk]
   conv=>lhs;rw[h4]
   rw[T0];congr 1
  rw[h3];unfold b7;rw[List.take_append,qO (by omega),Nat.add_sub_cancel_left,xF (by omega)]
 rw[e]at h2;exact h2
theorem aS1(an af ax ap aS : Option Addr)(cn cf cx cp cs : Nat)(M : SMach)(w : World)(h : RMach w an af ax ap aS cn cf cx cp cs M)(hsm : SmallC M)(hS : Shape M)(Ad : ∀ n ∈ M.ns, S0 n):
    Calls prog 56 #[machV an af ax ap aS M cn cf cx cp cs] w fun e w' => ∃ D r, e = .returned (.pointer (some ⟨r, 0, none⟩)) ∧ l9 NoG w' D r M ∧ w.heap.size ≤ D ∧ Bq w w' := by
 have HCL : Hid (∀ W, Bq w W → Calls prog 59 #[machV an af ax ap aS M cn cf cx cp cs] W fun e w' => ∃ D vN vF vX vP sS X P O, e = .returned (.agg #[vN, vF, vX, vP, sl M.sunk sS]) ∧ (∀ vI vM, Raw w' D O ⟨M, vN, vF, vX, vP, vI, vM, sS, X, P⟩) ∧ W.heap.size ≤ D ∧ Bq W w') := (show ∀ W, _ from fun W hW => aR1 an af ax ap aS cn cf cx cp cs M W (h.below hW) hsm);have HS : Hid (Shape M) := hS;have Hh : Hid (∀ n ∈ M.ns, S0 n) := Ad;have h60 : M.ns.length ≤ 60 := hS.g.le60;unfold machV at HCL ⊢;obtain ⟨NN, hNN⟩ : ∃ z, z = M.ns.length := ⟨_, rfl⟩;obtain ⟨NF, hNF⟩ : ∃ z, z = M.fs.length := ⟨_, rfl⟩;obtain ⟨NX, hNX⟩ : ∃ z, z = M.pipes.length := ⟨_, rfl⟩;obtain ⟨NP, hNP⟩ : ∃ z, z = M.ps.length := ⟨_, rfl⟩;obtain ⟨NS, hNS⟩ : ∃ z, z = M.sunk.length := ⟨_, rfl⟩
 have HL : Hid (NN = M.ns.length ∧ NF = M.fs.length ∧ NX = M.pipes.length ∧ NP = M.ps.length ∧ NS = M.sunk.length) := ⟨hNN, hNF, hNX, hNP, hNS⟩;rw [← hNN, ← hNF, ← hNX, ← hNP, ← hNS]at HCL ⊢;rw [← hNN]at h60;clear h hsm hS Ad hNN hNF hNX hNP hNS;go_enter Tryz.func56, Tryz.ntmps56;go_wp2_with fail;refine qD (HCL.out _ boxE) ?_;rintro e w1⟨D, vN, vF, vX, vP, sS, X, P, O, rfl, Oc, hD, hb1⟩;have hRI := Oc (.slice none 0 0) (.map (some w1.heap.size));obtain ⟨w0, _, _, hrn, hrf⟩ := hRI.base;obtain ⟨aN, cN, hvN, Uo, Ja⟩ := hrn.shape;obtain ⟨aF, cF, hvF, _, _⟩ := hrf.shape;obtain ⟨⟨aX, cX, hvX, _, _⟩, _⟩ := j5 (hRI.part .pipes (by simp) (by simp)).1;obtain ⟨⟨aP, cP, hvP, _, _⟩, _⟩ := j5 (hRI.part .procs (by simp) (by simp)).1;simp only at hvN hvF hvX hvP Uo;obtain ⟨O1, hR1⟩ := cm8 hRI rfl rfl;simp only at hR1;subst hvN hvF hvX hvP;rw [← HL.out.1]at Uo
 have hcN2' : cN ≤ 9223372036854775807 := by unfold maxLen at Ja; exact Ja
 obtain ⟨W3, hW3⟩ : ∃ W, W = (w1.alloc (.map #[] 0)).alloc (.cells #[.slice aN M.ns.length cN, .slice aF M.fs.length cF, .slice aX M.pipes.length cX, .slice aP M.ps.length cP, sl M.sunk sS, .slice none 0 0, .map (some w1.heap.size)] 111) := ⟨_, rfl⟩;rw [← hW3]at hR1;have Bf := hR1.box.1;have HST : Hid (StAt W3 D (w1.heap.size + 1) w1.heap.size M (.slice aN M.ns.length cN) [] 0) := (show StAt _ _ _ _ _ _ _ _ from ⟨O1, ⟨M, .slice aN M.ns.length cN, .slice aF M.fs.length cF, .slice aX M.pipes.length cX, .slice aP M.ps.length cP, .slice none 0 0, .map (some w1.heap.size), sS, X, P⟩, hR1, rfl, rfl, rfl⟩);have hB3 : Bq w W3 := by rw [hW3];have h1 : Bq w w1 := boxE.trans (hb1.mono boxE.size);exact (h1.alloc h1.size _).alloc (by have := h1.size; simp; omega) _
 have HB3 : Hid (Bq w W3) := hB3
 have HD : Hid (w.heap.size ≤ D) := (show _ ≤ _ by have : (w.alloc (.cells #[.slice an NN cn, .slice af NF cf, .slice ax NX cx, .slice ap NP cp, .slice aS NS cs] 30)).heap.size = w.heap.size + 1 := by simp
                                                   omega)
 obtain ⟨b0, b1, b2, b3, b4, b5, b6⟩ := K6 Bf;unfold sl at hW3;simp only at hW3 b0;rw [← HL.out.1, ← HL.out.2.1, ← HL.out.2.2.1, ← HL.out.2.2.2.1, ← HL.out.2.2.2.2]at hW3;rw [← HL.out.1]at HST;rw [← HL.out.1]at b0;unfold sl;rw [← HL.out.1, ← HL.out.2.1, ← HL.out.2.2.1, ← HL.out.2.2.2.1, ← HL.out.2.2.2.2];clear Oc hRI hrn hrf hR1 Bf hD hb1 hB3 Ja b1 b2 b3 b4 b5 b6 HCL;have hmm := @run_makeMap prog;go_upto_region 2 with fail;rw [← hW3];clear hW3 hmm;go_wp2_with fail;clear b0;go_loopw [4, 21] (fun zp zi wr => ∃ k : Nat, k ≤ NN ∧ zp = .int .i64 (b7 M.ns k : Int) ∧ zi = .int .i64 k ∧ Hid (StAt wr D (w1.heap.size + 1) w1.heap.size M (.slice aN NN cN) (j3 (M.ns.take k)) k) ∧ Hid (Bq w wr)) (fun _ zi _ => NN - (intOf zi).toNat)
 case atStart => exact ⟨0, qP _, by rw [aA0]; rfl, rfl, HST, HB3⟩
 case round =>
  obtain ⟨k, hk, rfl, rfl, hst, Aa⟩ := hrel;clear HST HB3;by_cases hlt : k < NN
  . obtain ⟨O, d, hR, eM, eN, eMap⟩ := hst.out;clear hst;obtain ⟨n, hn⟩ : ∃ n, M.ns[k]? = some n := ⟨_, List.getElem?_eq_getElem (by have := HL.out.1; omega)⟩;obtain ⟨w0, q1, q2, q3, q4⟩ := hR.base;rw [eN, eM]at q3;obtain ⟨nb, noff, ai, ci, e1, hNA, hrp⟩ := q3.at hn;subst e1;subst q1;have Uj := hNA.below q2;obtain ⟨c0, c1, c2, c3, c4, c5, c6, c7⟩ := Uj;have HRP : Hid (∀ W, Below w0.heap.size wr W → F2 W (.slice ai n.ins.length ci) n.ins) := (show ∀ W, _ from fun W hW => hrp.below (q2.trans hW));have hil : n.ins.length ≤ 5 := (A2 (HS.out.g.node n (zg hn))).1;have hfk : b7 M.ns k ≤ 300 := by
     have := aS0 HS.out;rw [HS.out.xlen]at this;have h2 : b7 M.ns k ≤ (j3 M.ns).length := by
      have := aP7 (ns := M.ns) (i := k) (j := M.ns.length) (by have := HL.out.1; omega);have e : b7 M.ns M.ns.length = (j3 M.ns).length := by unfold b7; rw [qZ]
      omega
     omega
    have HN : Hid (M.ns[k]? = some n) := hn;have hsuc := al1 hn;obtain ⟨_, _, _, _, _, b5, b6⟩ := K6 hR.box.1;rw [eMap]at b6;obtain ⟨hA1, _⟩ := hR.part .aux;obtain ⟨⟨aI, cI, hvI, _, _⟩, _⟩ := j5 hA1;obtain ⟨IL, hIL⟩ : ∃ z, z = n.ins.length := ⟨_, rfl⟩;have HIL : Hid (IL = n.ins.length) := hIL;rw [← hIL]at c7 HRP hil hsuc;obtain ⟨fx, hfx⟩ : ∃ z, z = (⟨n.file.toArray⟩ : ByteArray) := ⟨_, rfl⟩;obtain ⟨wx0, hwx⟩ : ∃ z, z = (⟨n.c.word.toArray⟩ : ByteArray) := ⟨_, rfl⟩;rw [← hfx]at c1;rw [← hwx]at c3;generalize n.kind = n0 at *;generalize n.c.kind = n2 at *;generalize n.c.n = n4 at *;generalize n.how = n5 at *;generalize n.wide = n6 at *;obtain ⟨FI, hFI⟩ : ∃ z, z = b7 M.ns k := ⟨_, rfl⟩;have HFI : Hid (FI = b7 M.ns k) := hFI;rw [← hFI]at hfk hsuc ⊢
    obtain ⟨W1, hW1⟩ : ∃ W, W = wr.alloc (.cells #[.int .i64 n0, .string fx, .int .i64 n2, .string wx0, .int .i64 n4, .int .i64 n5, .int .i64 n6, .slice ai IL ci] 73) := ⟨_, rfl⟩;obtain ⟨W2, hW2⟩ : ∃ W, W = W1.alloc (.cells #[.int .i64 FI] 3) := ⟨_, rfl⟩;have hb1 : Bq wr W1 := by rw [hW1]; exact boxE
    have hb2 : Bq wr W2 := by rw [hW2]; exact hb1.alloc hb1.size _
    have hs1 : W1.heap.size = wr.heap.size + 1 := by rw [hW1]; simp
    have hs2 : W2.heap.size = wr.heap.size + 2 := by rw [hW2]; simp; omega
    have hbx1 : W2.heap[wr.heap.size]? = some (.cells #[.int .i64 n0, .string fx, .int .i64 n2, .string wx0, .int .i64 n4, .int .i64 n5, .int .i64 n6, .slice ai IL ci] 73 (0, 0)) := by rw [hW2, heap_alloc_old _ _ (by omega), hW1];exact qN _ _
    have Ec : W2.heap[wr.heap.size + 1]? = some (.cells #[.int .i64 FI] 3 (0, 0)) := by rw [hW2, ← hs1];exact qN _ _
    have hR2 := RMem.below hR hb2;have hcI : W2.cell? ⟨wr.heap.size + 1, 0, none⟩ = some (.int .i64 (FI : Int)) := by rw [qV _ _ _ _ _ _ Ec]; rfl
    obtain ⟨v', w', O', Aj, ⟨a', c', hv'⟩, hbw, hsw, hrr, hkp, hR3⟩ := RMem.firstUp hR2 (by omega) (c := 1) (m := (FI : Int)) (by rw [eM, hFI]) hcI 45;subst hv';have hOn : ∀ g, wr.heap.size ≤ g → O g ≠ some .aux := fun g hg e => by have := (hR.lo g _ e).2; omega
    have Ro := (hkp wr.heap.size (by omega) (hOn _ (qB _))).trans hbx1;have hrb := hrr.trans hR2.box.1;have hfz5 : w'.frozen? ⟨w1.heap.size + 1, 5, none⟩ = false := xK _ _ _ _ _ hrb;obtain ⟨_, _, _, _, _, d5, _⟩ := K6 hrb;obtain ⟨W3x, Oe⟩ : ∃ W, W = w'.setCell ⟨w1.heap.size + 1, 5, none⟩ (.slice a' (k + 1) c') := ⟨_, rfl⟩;rw [← Oe]at hR3;have hrne : w1.heap.size + 1 < wr.heap.size := (hR.lo _ _ hR.box.2).2;have Ig : W3x.heap[wr.heap.size]? = some (.cells #[.int .i64 n0, .string fx, .int .i64 n2, .string wx0, .int .i64 n4, .int .i64 n5, .int .i64 n6, .slice ai IL ci] 73 (0, 0)) := by rw [Oe];exact (qJ _ _ _ _ (by show wr.heap.size ≠ w1.heap.size + 1; omega)).trans Ro
    have hDr : w0.heap.size ≤ w1.heap.size + 1 := (hR.lo _ _ hR.box.2).1;have Vz : Below w0.heap.size wr W3x := by rw [Oe];exact ((hb2.mono hR.le).trans hbw).setCell hDr _
    have HB3x : Hid (Below w0.heap.size wr W3x) := Vz;have HST3 : Hid (StAt W3x w0.heap.size (w1.heap.size + 1) w1.heap.size M (.slice (some ⟨nb, noff, none⟩) NN cN) (j3 (M.ns.take k)) (k + 1)) := (show StAt _ _ _ _ _ _ _ _ from ⟨O', d.withI (.slice a' (k + 1) c'), hR3, eM, eN, eMap⟩);obtain ⟨_, _, _, _, _, _, _, i7⟩ := R9 Ig;have Ar : Hid _ := Aj;rw [hvI]at Ar b5 d5;have HB2w : Hid (Bq w W3x) := Aa.out.trans (Vz.mono HD.out);have HNB : Hid (M.ns.length = NN) := HL.out.1.symm;rw [hW2, hW1]at Ar;have fb5 := fun o => ((boxE (w := wr) (o := o)).cell (World.block_lt_of_cell? wr _ b5)).trans b5;clear hR hR2 hR3 hrp q2 q3 q4 hNA hn eM eN hA1 hvI hb1 hb2 hbx1 Ec hcI hbw hkp hOn Ro hrr hrb Ig Vz Aj hIL hfx hwx hFI hs1 hs2 Aa eMap b6 hDr hsw hW1 hW2
    go_upto_region 7 with (at_builtin; refine V9 _ rfl (.tmp 29) (.tmp 31) 45 rfl _ _ rfl rfl Ar.out ?_);rw [← Oe];clear fb5 Oe Ar c0 c1 c2 c3 c4 c5 c6 c7 b5 d5 hfz5;go_wp2_with fail;clear i7;go_loopw [4, 38] (fun zp zj wx => ∃ j : Nat, j ≤ IL ∧ zp = .int .i64 ((FI : Int) + (j : Int)) ∧ zj = .int .i64 j ∧ Hid (StAt wx w0.heap.size (w1.heap.size + 1) w1.heap.size M (.slice (some ⟨nb, noff, none⟩) NN cN) (j3 (M.ns.take k) ++ n.ins.take j) (k + 1)) ∧ Hid (Below w0.heap.size wr wx) ∧ Hid (Bq w wx)) (fun _ zj _ => IL - (intOf zj).toNat)
    case atStart => exact ⟨0, qP _, by simp, rfl, (show StAt _ _ _ _ _ _ _ _ by simpa using HST3.out), HB3x, HB2w⟩
    case round =>
     obtain ⟨j, hj, rfl, rfl, hst, hbx, Rq⟩ := hrel;clear HST3 HB3x HB2w;by_cases hltj : j < IL
     . obtain ⟨p, hp⟩ : ∃ p, n.ins[j]? = some p := ⟨_, List.getElem?_eq_getElem (by have := HIL.out; omega)⟩;obtain ⟨O, d, hR, eM, eN, eMap⟩ := hst.out;have Jg := HRP.out _ hbx.out;obtain ⟨pb, poff, e2, p0, p1⟩ := Jg.at hp;subst e2;have hpl := Y3 Jg;obtain ⟨_, _, _, _, _, _, b6⟩ := K6 hR.box.1;rw [eMap]at b6;have Nl : WfP p := (Hh.out n (zg HN.out)).2.2 p (zg hp);have hnot : p ∉ j3 (M.ns.take k) ++ n.ins.take j := bG6 HS.out.g HN.out hp;have hLl : (j3 (M.ns.take k) ++ n.ins.take j).length = FI + j := by rw [qG, qL, HFI.out];unfold b7;have := HIL.out;omega
       have htk : j3 (M.ns.take k) ++ n.ins.take j ++ [p] = j3 (M.ns.take k) ++ n.ins.take (j + 1) := by rw [qp];congr 1;rw [qX, hp];rfl
       have hUP : ∀ W, Bq wr W → ∃ w', (Instr.mapUpdate 109 (.map (some w1.heap.size)) (.agg #[.int .i64 p.1, .int .i64 p.2]) (.int .i64 ((FI : Int) + (j : Int)))).run prog W = .ok () w' ∧ Hid (StAt w' w0.heap.size (w1.heap.size + 1) w1.heap.size M (.slice (some ⟨nb, noff, none⟩) NN cN) (j3 (M.ns.take k) ++ n.ins.take (j + 1)) (k + 1)) ∧ Hid (Below w0.heap.size wr w') := by intro W hW;obtain ⟨w', h1, h2, h3, h4⟩ := RMem.intoUp (RMem.below hR hW) eMap (by rw [hLl]; omega) Nl hnot (m := ((FI : Int) + (j : Int))) (by rw [hLl]; omega);rw [htk]at h4;exact ⟨w', h1, (show StAt _ _ _ _ _ _ _ _ from ⟨O, d, h4, eM, eN, eMap⟩), (hW.mono hR.le).trans h2⟩
       have HDR : Hid (w0.heap.size ≤ wr.heap.size) := hR.le;obtain ⟨q1, q2⟩ := p;simp only at p0 p1 hUP;have hb0 : Bq wr (wr.alloc (.cells #[.int .i64 q1, .int .i64 q2] 79)) := boxE;obtain ⟨y1, u1', s1, t1⟩ := hUP _ hb0.drew;have fb6 := fun o => ((boxE (w := wr) (o := o)).cell (World.block_lt_of_cell? wr _ b6)).trans b6;clear hst hR eM eN eMap Jg hp Nl hnot hLl htk hUP hb0;go_wp2_with fail;go_region
       have hwr : IntKind.i64.wrap ((FI : Int) + (j : Int) + 1) = (FI : Int) + ((j + 1 : Nat) : Int) := by rw [zZ]; omega
       have HB4 : Hid (Bq w y1) := Rq.out.trans (t1.out.mono HD.out);clear u1' fb6 b6 p0 p1 hpl;all_goals go_wp2_with fail
       all_goals go_roundw
       case rel => exact ⟨j + 1, by omega, by first|rfl | (congr 1; omega) | go_num, by go_num, s1, (hbx.out.trans t1.out), HB4⟩
       case measure => simp [intOf]; omega
     . have e5 : j = IL := by omega
       have Ik : Hid (StAt wr w0.heap.size (w1.heap.size + 1) w1.heap.size M (.slice (some ⟨nb, noff, none⟩) NN cN) (j3 (M.ns.take (k + 1))) (k + 1)) := (show StAt _ _ _ _ _ _ _ _ by
         have h1 := hst.out
         rw [e5, HIL.out, qZ]at h1
         rw [aI2 HN.out]
         exact h1)
       have hfj : (FI : Int) + (j : Int) = ((b7 M.ns (k + 1) : Nat) : Int) := by omega
       clear hst;go_wp2_with fail;go_roundw
       case rel => exact ⟨k + 1, by omega, by rw [hfj], by go_num, Ik, Rq⟩
       case measure => simp [intOf]; omega
  . have e6 : k = NN := by omega
    have Ao : Hid (l9 NoG wr D (w1.heap.size + 1) M) := (show l9 NoG _ _ _ _ by
      obtain ⟨O, d, hR, eM, eN, eMap⟩ := hst.out
      rw [e6, HL.out.1, qZ]at hR
      refine ⟨O, d, ?_, eM⟩
      have h2 := hR.part .aux
      rw [← eM]at h2
      have hA : AuxF D d.vI d.vM d.M.ns wr O := ce5 h2
      exact hR.auxTo (bh2 D d.vI d.vM d.M.ns cq2) ⟨hA, trivial⟩)
    clear hst;go_wp2_with fail;go_ret;exact ⟨D, w1.heap.size + 1, rfl, Ao.out, HD.out, Aa.out⟩
variable {G:World->(Nat->Option Own)->Prop}
theorem ch2{n:SNode}(h:j9 n=0):nouts n<=5:=by
 unfold nouts;split
 . rcases H7 (E8 h).1 with⟨h4 | h4,_⟩|⟨h4,_,h5⟩|⟨h4,_⟩|⟨h4,_⟩ <;> omega
 . split <;> omega
theorem bv5:∀(l:List (List UInt8))(c:Nat),(∀b∈l,b.length<=c)->l.flatten.length<=l.length*c
 | [],c,h=>by simp
 | a::r,c,h=>by
  have h1:=bv5 r c (fun b hb=>h b (by simp[hb]))
  have h2:=h a (by simp)
  rw[qe,qG,qY,Nat.succ_mul]
  omega
theorem bc6{M:SMach}(hS:Shape M)(hg:∀p∈M.ps,(∀b∈p.got,b.length<=100000)/\∀b∈p.out,b.length<=100000)(hs:M.sunk.length<=100000):SmallC M:=by
 have h60:=hS.g.le60;have hf:=G2 hS.fok;refine⟨by omega,by omega,by have:=aS0 hS;omega,by rw[hS.plen];omega,hs,fun n hn=>?_,fun f hf2=>?_,fun x hx=>?_,fun p hp=>?_⟩
 . have:=(A2 (hS.g.node n hn)).1;omega
 . have:=(J2 hf.2 f hf2).2;omega
 . have h1:=Q0 (hS.pipe x hx);have h2:=aK2 h1.2.1;have:=h1.2.2.1;omega
 . obtain⟨i,hi⟩:=qb hp;obtain⟨n,hn⟩:∃n,M.ns[i]? = some n:=⟨_,gEl (by rw[<- hS.plen];exact (gSm hi).1)⟩;have hF:=hS.proc i n p hn hi;have hch:=hS.g.node n (mGt hn);have h1:=(A2 hch).1;have h2:=ch2 hch;have h3:=hF.glen;have h4:=hF.olen;exact⟨by omega,by omega,(hg p hp).1,(hg p hp).2⟩
theorem bW7{M:SMach}(hS:Shape M)(hg:∀p∈M.ps,(∀b∈p.got,b.length<=48000)/\∀b∈p.out,b.length<=90000000)(hs:M.sunk.length<=90000000):SmallM M:=by refine⟨fun p hp=>?_,fun p hp=>(hg p hp).2,hs⟩;obtain⟨i,hi⟩:=qb hp;obtain⟨n,hn⟩:∃n,M.ns[i]? = some n:=⟨_,gEl (by rw[<- hS.plen];exact (gSm hi).1)⟩;have hF:=hS.proc i n p hn hi;have h1:=(A2 (hS.g.node n (mGt hn))).1;have h2:=bv5 p.got 48000 (hg p hp).1;have h3:p.got.length*48000<=5*48000:=Nat.mul_le_mul_right _ (by have:=hF.glen;omega);omega
def ab8(w:World)(v:Value)(M:SMach):Prop:=∃an af ax ap aS cn cf cx cp cs,v=machV an af ax ap aS M cn cf cx cp cs/\RMach w an af ax ap aS cn cf cx cp cs M
theorem rnil{w:World}:Reads w (.slice none 0 0) 0 []:=⟨rfl,none,0,rfl,qB _,by simp[maxLen],fun h=>absurd rfl h⟩
theorem ab8.zero(w:World):ab8 w (.agg #[.slice none 0 0,.slice none 0 0,.slice none 0 0,.slice none 0 0,.slice none 0 0]) S9:=
 ⟨none,none,none,none,none,0,0,0,0,0,rfl,⟨none,0,rfl,qB _,by simp[maxLen],fun h=>absurd rfl h⟩,⟨none,0,rfl,qB _,by simp[maxLen],fun h=>absurd rfl h⟩,⟨none,0,rfl,qB _,by simp[maxLen],fun h=>absurd rfl h⟩,⟨none,0,rfl,qB _,by simp[maxLen],fun h=>absurd rfl h⟩,rnil⟩
theorem RunM.mach{w:World}{D r:Nat}{O:Nat->Option Own}{d:RD}(h:RunM G w D r O d):∃an af ax ap aS cn cf cx cp cs,d.vN=.slice an d.M.ns.length cn/\d.vF=.slice af d.M.fs.length cf/\d.vX=.slice ax d.M.pipes.length cx/\d.vP=.slice ap d.M.ps.length cp/\sl d.M.sunk d.sS=.slice aS d.M.sunk.length cs/\RMach w an af ax ap aS cn cf cx cp cs d.M:=by
 obtain⟨hN,hF⟩:=RMem.nodes h;obtain⟨an,cn,eN,_,_⟩:=hN.shape;obtain⟨af,cf,eF,_,_⟩:=hF.shape;obtain⟨hX,hXo⟩:=h.part .pipes;obtain⟨hP,hPo⟩:=h.part .procs;obtain⟨⟨ax,cx,eX,hx1,hx2⟩,hxf⟩:=j5 hX;obtain⟨⟨ap,cp,eP,hp1,hp2⟩,hpf⟩:=j5 hP;refine⟨an,af,ax,ap,d.sS.1,cn,cf,cx,cp,d.sS.2,eN,eF,eX,eP,rfl,by rw[eN]at hN;exact hN,by rw[eF]at hF;exact hF,⟨ax,cx,rfl,hx1,hx2,fun hn=>?_⟩,⟨ap,cp,rfl,hp1,hp2,fun hn=>?_⟩,(h.part .sunk).reads⟩
 . obtain⟨g,c,e1,_⟩:=hxf hn;rw[eX]at e1;injection e1 with e1 _ _;refine⟨g,0,e1,fun j x hx=>?_⟩;obtain⟨g',c',s,hv,_,_,_,_,hs,hR,c0,c1,c2,c3,_⟩:=RMem.pipeAt h hx;rw[eX,e1]at hv;injection hv with hv _ _;injection hv with hv;injection hv with hv;subst hv;exact⟨s.1,s.2,by rw[qa];exact c0,by rw[qa];exact c1,by rw[qa];exact c2,by rw[qa];exact c3,hR.1⟩
 . obtain⟨g,c,e1,_⟩:=hpf hn;rw[eP]at e1;injection e1 with e1 _ _;refine⟨g,0,e1,fun j p hp=>?_⟩;obtain⟨g',c',s,hv,_,_,_,_,hs,c0,c1,c2,c3,c4,_,hGo,hOo,_,_⟩:=RMem.procAt h hp;rw[eP,e1]at hv;injection hv with hv _ _;injection hv with hv;injection hv with hv;subst hv;obtain⟨⟨ag,cg,eg,_,_⟩,_⟩:=j5 hGo;obtain⟨⟨ab,cb,eb,_,_⟩,_⟩:=j5 hOo;have hrg:=RMem.gots h hp hs;have hro:=RMem.outs h hp hs;rw[eg]at c0 hrg;rw[eb]at c2 hro;exact⟨ag,cg,ab,cb,by rw[qa];exact c0,by rw[qa];exact c1,by rw[qa];exact c2,by rw[qa];exact c3,by rw[qa];exact c4,hrg,hro⟩
theorem l9.mach{w:World}{D r:Nat}{M:SMach}(h:l9 G w D r M):∃an af ax ap aS cn cf cx cp cs vI vM,w.heap[r]? = some (.cells #[.slice an M.ns.length cn,.slice af M.fs.length cf,.slice ax M.pipes.length cx,.slice ap M.ps.length cp,.slice aS M.sunk.length cs,vI,vM] 111 (0,0))/\RMach w an af ax ap aS cn cf cx cp cs M:=by obtain⟨O,d,h1,rfl⟩:=h;obtain⟨an,af,ax,ap,aS,cn,cf,cx,cp,cs,e1,e2,e3,e4,e5,h2⟩:=RunM.mach h1;have h3:=h1.box.1;rw[e1,e2,e3,e4,e5]at h3;exact⟨an,af,ax,ap,aS,cn,cf,cx,cp,cs,_,_,h3,h2⟩
def Y6(w:World)(x:Nat):Prop:=∀j u,w.cell? ⟨x,j,none⟩=some u->∃a n c,u=.slice a n c
theorem G4{w w':World}{X:Nat->Prop}(hk:∀k,¬X k->w'.heap[k]? = w.heap[k]?){b j:Nat}{u:Value}(hb:¬X b)(h:w.cell? ⟨b,j,none⟩=some u):w'.cell? ⟨b,j,none⟩=some u:=by have:=hk b hb;simp only[World.cell?]at h ⊢;rw[this];exact h
theorem bv6{w w':World}{X:Nat->Prop}{v:Value}{ps:List (Int × Int)}(h:F2 w v ps)(hx:∀x,X x->Y6 w x)(hk:∀k,¬X k->w'.heap[k]? = w.heap[k]?):F2 w' v ps:=by
 obtain⟨ao,cap,rfl,h2,h3,h4⟩:=h;refine⟨ao,cap,rfl,h2,h3,fun hn=>?_⟩;obtain⟨b,off,rfl,hc⟩:=h4 hn;refine⟨b,off,rfl,fun j p hp=>?_⟩;obtain⟨c1,c2⟩:=hc j p hp;have hb:¬X b:=fun e=>by
  obtain⟨a,n,c,e⟩:=hx b e _ _ c1
  cases e
 exact⟨G4 hk hb c1,G4 hk hb c2⟩
theorem aI3{w w':World}{X:Nat->Prop}{v:Value}{ns:List SNode}(h:D4 w v ns)(hx:∀x,X x->Y6 w x)(hk:∀k,¬X k->w'.heap[k]? = w.heap[k]?):D4 w' v ns:=by
 obtain⟨ao,cap,rfl,h2,h3,h4⟩:=h;refine⟨ao,cap,rfl,h2,h3,fun hn=>?_⟩;obtain⟨b,off,rfl,hc⟩:=h4 hn;refine⟨b,off,rfl,fun j n hj=>?_⟩;obtain⟨ai,ci,⟨a0,a1,a2,a3,a4,a5,a6,a7⟩,hp⟩:=hc j n hj;have hb:¬X b:=fun e=>by
  obtain⟨a,n,c,e⟩:=hx b e _ _ a0
  cases e
 exact⟨ai,ci,⟨G4 hk hb a0,G4 hk hb a1,G4 hk hb a2,G4 hk hb a3,G4 hk hb a4,G4 hk hb a5,G4 hk hb a6,G4 hk hb a7⟩,bv6 hp hx hk⟩
theorem bv7{w w':World}{X:Nat->Prop}{v:Value}{bs:List UInt8}(h:Reads w v bs.length (bs.map U))(hx:∀x,X x->Y6 w x)(hk:∀k,¬X k->w'.heap[k]? = w.heap[k]?):Reads w' v bs.length (bs.map U):=by
 obtain⟨h1,ao,cap,rfl,h2,h3,h4⟩:=h;refine⟨h1,ao,cap,rfl,h2,h3,fun hn=>?_⟩;obtain⟨b,off,rfl,hc⟩:=h4 hn;refine⟨b,off,rfl,fun j u hu=>?_⟩;have hb:¬X b:=fun e=>by
  obtain⟨a,n,c,e⟩:=hx b e _ _ (hc j u hu);rw[qQ]at hu
  cases hq:bs[j]? with
  | none=>rw[hq]at hu;cases hu
  | some y=>
   rw[hq]at hu
   simp only[qu,qW]at hu
   rw[<- hu]at e
   cases e
 exact G4 hk hb (hc j u hu)
theorem aI4{w w':World}{X:Nat->Prop}{v:Value}{fs:List SFile}(h:j6 w v fs)(hx:∀x,X x->Y6 w x)(hk:∀k,¬X k->w'.heap[k]? = w.heap[k]?):j6 w' v fs:=by
 obtain⟨ao,cap,rfl,h2,h3,h4⟩:=h;refine⟨ao,cap,rfl,h2,h3,fun hn=>?_⟩;obtain⟨b,off,rfl,hc⟩:=h4 hn;refine⟨b,off,rfl,fun j f hj=>?_⟩;obtain⟨u,a0,a1,a2⟩:=hc j f hj;have hb:¬X b:=fun e=>by
  obtain⟨a,n,c,e⟩:=hx b e _ _ a0
  cases e
 exact⟨u,G4 hk hb a0,G4 hk hb a1,bv7 a2 hx hk⟩
theorem RMem.apart{w w':World}{D r:Nat}{O:Nat->Option Own}{A:World->(Nat->Option Own)->Prop}{d:RD}(h:RMem w D r O A d){X:Nat->Prop}(hX:∀x,X x->x<D/\Y6 w x)(hsz:w'.heap.size=w.heap.size)(hk:∀k,¬X k->w'.heap[k]? = w.heap[k]?):RMem w' D r O A d:=by
 obtain⟨w0,b1,b2,b3,b4⟩:=h.base;have hle:=h.le;have hx0:∀x,X x->Y6 w0 x:=fun x hx j u hu=>by refine (hX x hx).2 j u ?_;have:=b2.block x (hX x hx).1;simp only[World.cell?]at hu ⊢;rw[this];exact hu
 have hk0:∀k,¬X k->(cutH w' D).heap[k]? = w0.heap[k]?:=fun k hkx=>by
  by_cases hkD:k<D
  . rw[aw7 (by omega) hkD,hk k hkx,b2.block k hkD]
  . rw[xE (by rw[ai8 (by omega)];omega),xE (by omega)]
 refine⟨fun g o hg=>by rw[hsz];exact h.lo g o hg,⟨cutH w' D,ai8 (by omega),aQ7 (by omega),aI3 b3 hx0 hk0,aI4 b4 hx0 hk0⟩,h.xlen,h.plen,h.slen,h.aux,fun o=>?_⟩;exact (h.part o).keep h.aux (fun k hk2=>hk k (fun hx=>by have:=(h.lo k o hk2).1;have:=(hX k hx).1;omega)) (fun _ _ _=>rfl) (fun k o2 hk2=>(h.lo k o2 hk2).2) (fun _ _=>rfl)
theorem RunM.machV{w:World}{D r:Nat}{O:Nat->Option Own}{d:RD}(h:RunM G w D r O d){an af ax ap aS:Option Addr}{cn cf cx cp cs:Nat}(e1:d.vN=.slice an d.M.ns.length cn)(e2:d.vF=.slice af d.M.fs.length cf)(e3:d.vX=.slice ax d.M.pipes.length cx)(e4:d.vP=.slice ap d.M.ps.length cp)(e5:sl d.M.sunk d.sS=.slice aS d.M.sunk.length cs):RMach w an af ax ap aS cn cf cx cp cs d.M:=by obtain⟨an',af',ax',ap',aS',cn',cf',cx',cp',cs',f1,f2,f3,f4,f5,h2⟩:=RunM.mach h;rw[e1]at f1;rw[e2]at f2;rw[e3]at f3;rw[e4]at f4;rw[e5]at f5;injection f1 with f1 _ g1;injection f2 with f2 _ g2;injection f3 with f3 _ g3;injection f4 with f4 _ g4;injection f5 with f5 _ g5;subst f1 f2 f3 f4 f5 g1 g2 g3 g4 g5;exact h2
theorem l9.machX{w:World}{D r:Nat}{M:SMach}(h:l9 G w D r M):D<=r/\∃an af ax ap aS cn cf cx cp cs vI vM,w.heap[r]? = some (.cells #[.slice an M.ns.length cn,.slice af M.fs.length cf,.slice ax M.pipes.length cx,.slice ap M.ps.length cp,.slice aS M.sunk.length cs,vI,vM] 111 (0,0))/\(∀(X:Nat->Prop)(w':World),(∀x,X x->x<D/\Y6 w x)->w'.heap.size=w.heap.size->(∀k,¬X k->w'.heap[k]? = w.heap[k]?)->RMach w' an af ax ap aS cn cf cx cp cs M):=by obtain⟨O,d,h1,rfl⟩:=h;obtain⟨an,af,ax,ap,aS,cn,cf,cx,cp,cs,e1,e2,e3,e4,e5,h2⟩:=RunM.mach h1;have h3:=h1.box.1;rw[e1,e2,e3,e4,e5]at h3;exact⟨(h1.lo _ _ h1.box.2).1,an,af,ax,ap,aS,cn,cf,cx,cp,cs,_,_,h3,fun X w' hX hsz hk=>RunM.machV (RMem.apart h1 hX hsz hk) e1 e2 e3 e4 e5⟩
def aB2(B:Nat)(w:World)(an af ax ap aS:Option Addr)(cn cf cx cp cs:Nat)(M:SMach):Prop:=∀(X:Nat->Prop)(w':World),(∀x,X x->x<B/\Y6 w x)->w'.heap.size=w.heap.size->(∀k,¬X k->w'.heap[k]? = w.heap[k]?)->RMach w' an af ax ap aS cn cf cx cp cs M
def Z6(B:Nat)(w:World)(v:Value)(M:SMach):Prop:=∃an af ax ap aS cn cf cx cp cs,v=machV an af ax ap aS M cn cf cx cp cs/\aB2 B w an af ax ap aS cn cf cx cp cs M
theorem aB2.self{B:Nat}{w:World}{an af ax ap aS:Option Addr}{cn cf cx cp cs:Nat}{M:SMach}(h:aB2 B w an af ax ap aS cn cf cx cp cs M):RMach w an af ax ap aS cn cf cx cp cs M:=h (fun _=>False) w (fun _ hx=>hx.elim) rfl (fun _ _=>rfl)
theorem Z6.zero(B:Nat)(w:World):Z6 B w (.agg #[.slice none 0 0,.slice none 0 0,.slice none 0 0,.slice none 0 0,.slice none 0 0]) S9:=by refine⟨none,none,none,none,none,0,0,0,0,0,rfl,fun X w' _ _ _=>?_⟩;obtain⟨an,af,ax,ap,aS,cn,cf,cx,cp,cs,e,h1⟩:=ab8.zero w';unfold machV at e;simp at e;obtain⟨⟨rfl,_,rfl⟩,⟨rfl,_,rfl⟩,⟨rfl,_,rfl⟩,⟨rfl,_,rfl⟩,rfl,_,rfl⟩:=e;exact h1
theorem aw8{w3 wf:World}{B D bm:Nat}{M:SMach}{an af ax ap aS:Option Addr}{cn cf cx cp cs:Nat}(hRM:aB2 D w3 an af ax ap aS cn cf cx cp cs M)(hbm:bm<D)(hon:Y6 w3 bm)(hB:B<=bm)(hs:wf.heap.size=w3.heap.size)(hk:∀k,k≠bm->wf.heap[k]? = w3.heap[k]?):aB2 B wf an af ax ap aS cn cf cx cp cs M:=by
 intro X w' hX hsz hk2;refine hRM (fun k=>X k\/k=bm) w' (fun x hx=>?_) (hsz.trans hs) (fun k hkx=>(hk2 k (fun h=>hkx (.inl h))).trans (hk k (fun h=>hkx (.inr h))));rcases hx with hx | hx
 . obtain⟨h1,h2⟩:=hX x hx;refine⟨by omega,fun j u hu=>h2 j u ?_⟩;have:=hk x (by omega);simp only[World.cell?]at hu ⊢;rw[this];exact hu
 . rw[hx];exact⟨hbm,hon⟩
theorem bK0{w:World}{bm:Nat}{a b c d e:Value}(h:BX w bm a b c d e):Y6 w (bm+1):=by
 intro j u hu;rw[qV _ _ _ _ _ _ h.2]at hu;have:j=0\/j=1\/j=2\/j=3\/j=4\/5<=j:=by omega
 rcases this with rfl | rfl | rfl | rfl | rfl | hj;all_goals first|(simp at hu;exact⟨_,_,_,hu.symm⟩)|(rw[xE (by simpa using hj)]at hu;cases hu)
theorem aS2(an af ax ap aS:Option Addr)(cn cf cx cp cs:Nat)(M:SMach)(w:World)(hM:RMach w an af ax ap aS cn cf cx cp cs M)(Ad:FitsM M):
 Calls prog 18 #[machV an af ax ap aS M cn cf cx cp cs] w fun e w'=>e=.returned (.int .i64 (mchk M))/\Bq w w':=
 bT2 an af ax ap aS cn cf cx cp cs M w hM Ad (fun W hW=>bc4 M.ns an cn W (hM.nodes.below hW) Ad.nodes) (fun W hW=>ac0 af cf M.fs W (hM.files.below hW) Ad.files)
end Go.Proofs.YtllgglolcgdehaaGreatDoor
namespace Go.Proofs.YtllgglolcgdehaaGreatDoor
open Go.RowKit Go.Gs Go.Maps Tryz
variable {G:World->(Nat->Option Own)->Prop}
def bj9(F:Nat):Prop:=∀(a:Option Addr)(n c:Nat)(pos:Int)(a':Option Addr)(n' c':Nat)(rd o:Bool)(w:World),Calls prog F #[.agg #[.slice a n c,.int .i64 pos,.slice a' n' c',.bool rd,.bool o]] w fun e w'=>e=.returned (.bool (!o))/\Bq w w'
theorem ch7:bj9 139:=by intro a n c pos a' n' c' rd o w;go_enter Tryz.func139,Tryz.ntmps139;go_wp2_with fail;go_ret;exact⟨rfl,boxE⟩
theorem bW8(F:Nat)(hF:bj9 F)(hE:∀args w,(callFunc F args).run prog w=.ok (.enter F args) w)(al:Option Addr)(cl:Nat)(ps:List SProc)(w:World)(hl:U2 w (.slice al ps.length cl) ps):
 Calls prog 153 #[.slice al ps.length cl,.func (.func F) #[] #[]] w fun e w'=>∃i:Int,e=.returned (.int .i64 i)/\((ps.all (fun p=>p.ov)=false->0<=i)/\(0<=i->ps.all (fun p=>p.ov)=false))/\Bq w w':=by
 have hle:=aZ3 hl;have HL:=qH hl;have HF:=qH hF;obtain⟨M,hM⟩:=qE ps.length;have HM:=qH hM;rw[<- hM]at HL hle ⊢;clear hl hF hM;go_enter Tryz.func153,Tryz.ntmps153;go_wp2_with fail;go_loopw [8] (fun i wr=>∃k:Nat,k<=M/\i=.int .i64 k/\Hid (Bq w wr)/\Hid (∀p∈ps.take k,p.ov=true)) (fun i _=>M-(intOf i).toNat)
 case atStart=>exact⟨0,qP _,rfl,qI _ _,(show ∀p∈ps.take 0,p.ov=true by simp)⟩
 case round=>
  obtain⟨k,hk,rfl,Aa,hno⟩:=hrel;by_cases hlt:k<M
  .
   obtain⟨p,hp⟩:∃p,ps[k]? = some p:=⟨_,gEl (by have:=HM.out;omega)⟩;obtain⟨b,off,ag,cg,ab,cb,rfl,c0,c1,c2,c3,c4,_,_⟩:=(U2.below HL.out Aa.out).at hp;have HC:Hid _:=HF.out ag p.got.length cg p.pos ab p.out.length cb p.rd p.ov wr
   have HD2:=qH (show p.ov=false->ps.all (fun p=>p.ov)=false from fun h=>by
    rw[List.all_eq_false]
    exact⟨p,mGt hp,by simp[h]⟩)
   have HD3:Hid (p.ov=true->∀q∈ps.take (k+1),q.ov=true):=(show p.ov=true->∀q∈ps.take (k+1),q.ov=true from fun h q hq=>by
    rw[qX,hp]at hq
    rcases xB.1 hq with hq | hq
    . exact hno.out q hq
    . simp at hq
      rw[hq]
      exact h)
   generalize p.got.length=n1 at *;generalize p.out.length=n2 at *;generalize p.pos=n3 at *;generalize p.rd=n4 at *;generalize p.ov=n5 at *;clear hp;go_wp2_with fail;refine qD HC.out ?_;rintro e w3⟨rfl,hb3⟩;have HB3:=qT Aa hb3;clear hb3 HC c0 c1 c2 c3 c4
   cases n5 with
   | false=>
    go_wp2_with fail
    go_ret
    exact⟨_,rfl,⟨fun _=>by omega,fun _=>HD2.out trivial⟩,HB3.out⟩
   | true=>
    go_wp2_with fail
    go_roundw
    case rel=>exact⟨k+1,by omega,by go_num,HB3,HD3.out trivial⟩
    case measure=>simp[intOf];omega
  .
   have HN:=qH (show ps.all (fun p=>p.ov)=true by
    rw[zS]
    intro p hp
    exact hno.out p (by rw[qO (by have:=HM.out;omega)];exact hp))
   clear hno;go_wp2_with fail;go_ret;exact⟨_,rfl,⟨fun e=>(by rw[HN.out]at e;cases e),fun e=>absurd e (by omega)⟩,Aa.out⟩
theorem bk0(F:Nat)(hF:bj9 F)(hE:∀args w,(callFunc F args).run prog w=.ok (.enter F args) w)(al:Option Addr)(cl:Nat)(ps:List SProc)(w:World)(hl:U2 w (.slice al ps.length cl) ps):
 Calls prog 96 #[.slice al ps.length cl,.func (.func F) #[] #[]] w fun e w'=>e=.returned (.bool (!ps.all (fun p=>p.ov)))/\Bq w w':=by
 have HI:Hid _:=bW8 F hF hE al cl ps w hl;generalize ps.all (fun p=>p.ov)=A at *;generalize ps.length=N at *;clear hF hE hl;go_enter Tryz.func96,Tryz.ntmps96;go_wp2_with fail;refine qD HI.out ?_;rintro e w1⟨i,rfl,hi,hb⟩;have HB:=qH hb
 have HI2:=qH (show decide (0<=i) = !A by
  cases hA:A with
  | true=>
   rw[qU (fun h=>by have:=hi.2 h;rw[hA]at this;cases this)]
   rfl
  | false=>
   rw[qd (hi.1 hA)]
   rfl)
 clear hi hb HI;by_cases h:0<=i
 . go_wp2_with fail;go_ret;exact⟨by rw[<- HI2.out];first|rfl | simp[h],HB.out⟩
 . go_wp2_with fail;go_ret;exact⟨by rw[<- HI2.out];first|rfl | simp[h],HB.out⟩
theorem ch8(D r:Nat)(M:SMach)(w:World)(h:l9 G w D r M):Calls prog 87 #[.pointer (some ⟨r,0,none⟩)] w fun e w'=>e=.returned (.bool (overS M))/\Bq w w':=by
 obtain⟨an,af,ax,ap,aS,cn,cf,cx,cp,cs,vI,vM,Bf,hRM⟩:=l9.mach h;have HC:Hid _:=bk0 _ ch7 (enters_of Tryz.func139 (by kernel_rfl) rfl) ap cp M.ps w hRM.procs;obtain⟨b0,b1,b2,b3,b4,b5,b6⟩:=K6 Bf;have e1:overS M=M.ps.all (fun p=>p.ov):=rfl;rw[e1];generalize M.ps.all (fun p=>p.ov)=A at *;generalize M.ps.length=NP at *;clear h Bf hRM b0 b1 b2 b4 b5 b6 e1;go_enter Tryz.func87,Tryz.ntmps87;go_wp2_with fail;refine qD HC.out ?_;rintro e w1⟨rfl,hb⟩;have HB:=qH hb;clear hb HC
 cases A
 all_goals
  go_wp2_with fail;go_ret;exact⟨rfl,HB.out⟩
structure InvM (ns:List SNode) (fs:List SFile) (I:SMach->Prop):Prop where
 shape:∀M,I M->Shape M
 small:∀M,I M->SmallM M
 nodes:∀M,I M->M.ns=ns/\M.fs=fs
 step:∀M a,I M->I (K7 M a).1
theorem InvM.to{ns:List SNode}{fs:List SFile}{I:SMach->Prop}(h:InvM ns fs I){M:SMach}(hM:I M):∀k,I (roundTo M k).1
 | 0=>hM
 | k+1=>h.step _ _ (h.to hM k)
theorem bW9(ns:List SNode)(fs:List SFile)(I:SMach->Prop)(hI:InvM ns fs I)(Ad:∀n∈ns,S0 n)(D r:Nat)(M:SMach)(w:World)(h:l9 G w D r M)(hM:I M)(hE:∀W,Below D w W->D6 W):
 Calls prog 88 #[.pointer (some ⟨r,0,none⟩)] w fun e w'=>e=.returned (.bool (V8 M).2)/\l9 G w' D r (V8 M).1/\Below D w w':=by
 have Jn:Hid (∀(k:Nat)(W:World),k<M.ps.length->l9 G W D r (roundTo M k).1->Below D w W->Calls prog 57 #[.pointer (some ⟨r,0,none⟩),.int .i64 k] W fun e w'=>e=.returned (.int .i64 (K7 (roundTo M k).1 k).2)/\l9 G w' D r (K7 (roundTo M k).1 k).1/\Below D W w'):=(show ∀(k:Nat)(W:World),_ from fun k W hk hR hW=>by
  have hIk:=hI.to hM k
  have hSk:=hI.shape _ hIk
  have hpl:(roundTo M k).1.ps.length=M.ps.length:=by rw[hSk.plen,(hI.nodes _ hIk).1,<- (hI.nodes _ hM).1,(hI.shape _ hM).plen]
  obtain⟨O,d,hR1,hd⟩:=hR
  have:=bv4 D r O d (k:Int) W hR1 (by rw[hd];exact hSk) (by rw[hd,(hI.nodes _ hIk).1];exact Ad) (by rw[hd];exact hI.small _ hIk) (fun V hV=>hE V (hW.trans hV))
  rw[hd]at this
  have e1:stepS (roundTo M k).1 (k:Int)=K7 (roundTo M k).1 k:=by
   unfold stepS
   rw[qA (by omega),qq]
  rw[e1]at this
  exact this)
 obtain⟨an,af,ax,ap,aS,cn,cf,cx,cp,cs,vI,vM,Bf,hRM⟩:=l9.mach h;obtain⟨b0,b1,b2,b3,b4,b5,b6⟩:=K6 Bf;have HH:=qH h;unfold V8;obtain⟨NP,hNP⟩:=qE M.ps.length;rw[<- hNP]at Jn b3 ⊢;have HNB:=qH (show NP<=100 by have:=(hI.shape _ hM).plen;have:=(hI.shape _ hM).g.le60;omega);have hnp:=HNB.out;clear h hM hE hI Ad Bf hRM hNP b0 b1 b2 b4 b5 b6;go_enter Tryz.func88,Tryz.ntmps88;go_wp2_with fail;clear b3;go_loopw [3,11] (fun z3 z wr=>∃k:Nat,k<=NP/\z3=.bool (roundTo M k).2/\z=.int .i64 k/\Hid (l9 G wr D r (roundTo M k).1)/\Hid (Below D w wr)) (fun _ z _=>NP-(intOf z).toNat)
 case atStart=>exact⟨0,qP _,rfl,rfl,HH,qI _ _⟩
 case round=>
  obtain⟨k,hk,rfl,rfl,hR,Aa⟩:=hrel;by_cases hlt:k<NP
  .
   have HC:Hid _:=Jn.out k wr hlt hR.out Aa.out;obtain⟨B,hB⟩:=qE ((roundTo M k).2);obtain⟨E,hE⟩:=qE ((K7 (roundTo M k).1 k).2);have HE2:Hid ((roundTo M (k+1)).2=(B || decide (E=0))/\(roundTo M (k+1)).1=(K7 (roundTo M k).1 k).1):=⟨by rw[hB,hE];rfl,rfl⟩;rw[<- hE]at HC;rw[<- hB];clear hR hB hE;go_wp2_with fail;refine qD HC.out ?_;rintro e w3⟨rfl,hR3,hb3⟩;have HR3:=qH (show l9 G w3 D r (roundTo M (k+1)).1 by rw[HE2.out.2];exact hR3);have HB3:Hid (Below D w w3):=Aa.out.trans hb3;clear hR3 hb3 HC;by_cases he:E=0
   . have HQ:=qH (show (roundTo M (k+1)).2=true by rw[HE2.out.1,he];simp);go_wp2_with fail;go_roundw
     case rel=>exact⟨k+1,by omega,by rw[HQ.out],by go_num,HR3,HB3⟩
     case measure=>simp[intOf];omega
   . have HQ:=qH (show (roundTo M (k+1)).2=B by rw[HE2.out.1,qU he,Bool.or_false]);go_wp2_with fail;go_roundw
     case rel=>exact⟨k+1,by omega,by rw[HQ.out],by go_num,HR3,HB3⟩
     case measure=>simp[intOf];omega
  . have e:k=NP:=by omega
    subst e;go_wp2_with fail;go_ret;exact⟨rfl,hR.out,Aa.out⟩
end Go.Proofs.YtllgglolcgdehaaGreatDoor
namespace Go.Proofs.YtllgglolcgdehaaGreatDoor
open Go.RowKit Go.Gs Go.Maps Tryz
theorem ch9(P:Nat->World->Prop):∃f:World->Nat,∀wr k,P k wr->P (f wr) wr/\f wr<=k:=by
 have h1:∀wr,∃n,∀k,P k wr->P n wr/\n<=k:=by
  intro wr;by_cases h:∃k,P k wr
  .
   obtain⟨k,hk⟩:=h
   induction k using Nat.strongRecOn with
   | ind k ih=>
    by_cases h2:∃j,j<k/\P j wr
    . obtain⟨j,hj,hp⟩:=h2
      exact ih j hj hp
    . refine⟨k,fun q hq=>⟨hk,?_⟩⟩
      by_cases h3:k<=q
      . exact h3
      . exact absurd ⟨q,by omega,hq⟩ h2
  . exact⟨0,fun k hk=>absurd ⟨k,hk⟩ h⟩
 exact⟨fun wr=>Classical.choose (h1 wr),fun wr=>Classical.choose_spec (h1 wr)⟩
theorem l9.below{w w':World}{D r:Nat}{M:SMach}(h:l9 NoG w D r M)(hb:Bq w w'):l9 NoG w' D r M:=by obtain⟨O,d,h1,h2⟩:=h;exact⟨O,d,RMem.below h1 hb,h2⟩
def finR(M:SMach)(res:SMach × Int):SMach × Int:=if mchk M≠0 then (S9,mchk M) else res
theorem bG7(an af ax ap aS:Option Addr)(cn cf cx cp cs:Nat)(M:SMach)(w:World)(h:RMach w an af ax ap aS cn cf cx cp cs M)(Ad:FitsM M)(hE:∀W,Bq w W->D6 W)
 (I:SMach->Prop) (hI:mchk M=0->InvM M.ns M.fs I) (hM:mchk M=0->I M) (k0:Nat) (res:SMach × Int) (Eu:mchk M=0->Fins k0 M res):
 Calls prog 25 #[machV an af ax ap aS M cn cf cx cp cs] w fun e w'=>∃v,e=.returned (.tuple #[v,.int .i64 (finR M res).2])/\Z6 w.heap.size w' v (finR M res).1/\Bq w w':=by
 have HCK:=qH (show ∀W,Bq w W->Calls prog 18 #[machV an af ax ap aS M cn cf cx cp cs] W fun e w'=>e=.returned (.int .i64 (mchk M))/\Bq W w' from fun W hW=>aS2 an af ax ap aS cn cf cx cp cs M W (h.below hW) Ad)
 have HST:=qH (show mchk M=0->∀W,Bq w W->Calls prog 56 #[machV an af ax ap aS M cn cf cx cp cs] W fun e w'=>∃D r,e=.returned (.pointer (some ⟨r,0,none⟩))/\l9 NoG w' D r M/\W.heap.size<=D/\Bq W w' from fun h0 W hW=>by
  obtain⟨q1,q2,q3⟩:=aE1 h0
  exact aS1 an af ax ap aS cn cf cx cp cs M W (h.below hW) (bc6 q1 (fun p hp=>⟨fun b hb=>by have:=(q2 p hp).1 b hb;omega,fun b hb=>by have:=(q2 p hp).2 b hb;omega⟩) (by omega)) q1 Ad.nodes)
 have HRD:Hid (mchk M=0->∀(D r:Nat)(M':SMach)(W:World),l9 NoG W D r M'->I M'->w.heap.size<=D->Bq w W->Calls prog 88 #[.pointer (some ⟨r,0,none⟩)] W fun e w'=>e=.returned (.bool (V8 M').2)/\l9 NoG w' D r (V8 M').1/\Below D W w'):=(show mchk M=0->∀(D r:Nat)(M':SMach)(W:World),_ from fun h0 D r M' W hR hI' hD hW=>bW9 M.ns M.fs I (hI h0) Ad.nodes D r M' W hR hI' (fun V hV=>hE V (hW.trans (hV.mono hD))));have HTO:=qH (show mchk M=0->∀M',I M'->I (V8 M').1 from fun h0 M' hM'=>(hI h0).to hM' _);have HI0:=qH (show mchk M=0->I M/\Fins k0 M res from fun h0=>⟨hM h0,Eu h0⟩);unfold machV at HCK HST ⊢;obtain⟨RES,Ai⟩:=qE (finR M res);rw[<- Ai];unfold finR at Ai;generalize M.ns.length=NN at *;generalize M.fs.length=NF at *;generalize M.pipes.length=NX at *;generalize M.ps.length=NP at *;generalize M.sunk.length=NS at *;clear h Ad hE hI hM Eu
 by_cases h0:mchk M=0
 .
  have Ks:Hid _:=HST.out h0;have HRD2:Hid _:=HRD.out h0;have Kt:Hid _:=HTO.out h0;have HI2:Hid _:=HI0.out h0;rw[qA (by simpa using h0)]at Ai;subst Ai;rw[h0]at HCK;clear HST HRD HTO HI0 h0;go_enter Tryz.func25,Tryz.ntmps25;go_wp2_with fail;obtain⟨W0,hW0⟩:=qE ((w.alloc (.cells #[.slice an NN cn,.slice af NF cf,.slice ax NX cx,.slice ap NP cp,.slice aS NS cs] 30)).alloc (.cells #[.slice none 0 0,.slice none 0 0,.slice none 0 0,.slice none 0 0,.slice none 0 0] 30));rw[<- hW0];have hB0:Bq w W0:=by rw[hW0];exact ((qI _ w).alloc (qB _) _).alloc (by simp) _
  have hX0:BX W0 w.heap.size (.slice an NN cn) (.slice af NF cf) (.slice ax NX cx) (.slice ap NP cp) (.slice aS NS cs):=by rw[hW0];exact⟨zm _ _ _,zn _ _ _⟩
  refine qD (HCK.out W0 hB0) ?_;rintro e w1⟨rfl,hb1⟩;have hB1:Bq w w1:=hB0.trans (hb1.mono hB0.size);have hX1:=BX.below hX0 hb1;obtain⟨x0,x1,x2,x3,x4,_⟩:=A3 hX1.1;have HB1:=qH hB1;have HX1:=qH hX1;clear hW0 hB0 hX0 hb1 hB1 hX1 HCK;go_wp2_with fail;refine qD (Ks.out w1 HB1.out) ?_;rintro e w2⟨D,r,rfl,hR2,hD,hb2⟩;have HB2:=qT HB1 hb2;have HX2:Hid (BX w2 w.heap.size (.slice an NN cn) (.slice af NF cf) (.slice ax NX cx) (.slice ap NP cp) (.slice aS NS cs)):=BX.below HX1.out hb2;have HDX:=qH (show w.heap.size+2<=D by have:=BX.lt HX1.out;omega);obtain⟨f,hf⟩:=ch9 (fun k wr=>∃M',l9 NoG wr D r M'/\I M'/\Fins k M' RES);have HF:=qH hf;have HP2:=qH (show ∃k,∃M',l9 NoG w2 D r M'/\I M'/\Fins k M' RES from ⟨k0,M,hR2,HI2.out.1,HI2.out.2⟩);clear hR2 hD hb2 Ks x0 x1 x2 x3 x4 HX1 hf HI2;go_upto_region 5 with fail
  go_loopw [14] (fun _ wr=>Hid (∃k,∃M',l9 NoG wr D r M'/\I M'/\Fins k M' RES)/\Hid (BX wr w.heap.size (.slice an NN cn) (.slice af NF cf) (.slice ax NX cx) (.slice ap NP cp) (.slice aS NS cs))/\Hid (Bq w wr)) (fun _ wr=>f wr)
  case atStart=>exact⟨HP2,HX2,HB2⟩
  case round=>
   obtain⟨hP,hX,hB⟩:=hrel;clear HP2 HX2 HB2;obtain⟨k,hk⟩:=hP.out;obtain⟨⟨M',hR,hI',hFin⟩,_⟩:=HF.out wr k hk;have HOV:Hid _:=ch8 D r M' wr hR;have HR:=qH hR;have HI':=qH hI';have Da:=qH hFin;clear hP hk hR hI' hFin;go_wp2_with fail;refine qD HOV.out ?_;rintro e w3⟨rfl,hb3⟩;have hR3:=l9.below HR.out hb3;have hX3:=BX.below hX.out hb3;have hB3:Bq w w3:=hB.out.trans (hb3.mono hB.out.size);clear HOV hb3
   cases ho:overS M' with
   | true=>
    have Iz:RES=(M',0):=by
     have h1:=Da.out
     cases hn:f wr with
     | zero=>
      rw[hn]at h1
      rcases h1 with⟨_,h2⟩|⟨h2,_⟩
      . exact h2
      . rw[ho]at h2;cases h2
     | succ n=>
      rw[hn]at h1
      have:=h1.1
      rw[ho]at this
      cases this
    have Dc:=qH Iz
    obtain⟨hrD,bn,bf,bx,bp,bS,dn,df,dx,dp,ds,vI,vM,Bf,hRM⟩:=l9.machX hR3
    have HRM:Hid (∀(w':World),w'.heap.size=w3.heap.size->(∀k,k≠w.heap.size+1->w'.heap[k]? = w3.heap[k]?)->aB2 w.heap.size w' bn bf bx bp bS dn df dx dp ds M'):=(show ∀(w':World),_ from fun w' h1 h2=>aw8 hRM (by have:=HDX.out;omega) (bK0 hX3) (by omega) h1 h2)
    obtain⟨c0,c1,c2,c3,c4,_,_⟩:=K6 Bf
    have hrw:r≠w.heap.size+1:=by have:=HDX.out;omega
    have hrw':w.heap.size+1≠r:=by omega
    have HB3:=qH hB3
    obtain⟨y0,y1,y2,y3,y4,yf⟩:=A3 hX3.2
    have yf0:=yf 0
    have yf1:=yf 1
    have yf2:=yf 2
    have yf3:=yf 3
    have yf4:=yf 4
    generalize hn5:M'.ns.length=N5 at *
    generalize hf5:M'.fs.length=F5 at *
    generalize hx5:M'.pipes.length=X5 at *
    generalize hp5:M'.ps.length=P5 at *
    generalize hs5:M'.sunk.length=S5 at *
    clear Iz hR3 hX3 hB3 Bf hRM yf ho HF
    go_wp2_with fail
    (try simp only[Exit.inBlock,Exit.then])
    refine xA (v:=.tuple #[.agg #[.slice bn N5 dn,.slice bf F5 df,.slice bx X5 dx,.slice bp P5 dp,.slice bS S5 ds],.int .i64 0]) ?_ rfl ?_
    . rw[results_cell_tmp rfl]
      go_simp
    . rw[Dc.out]
      refine⟨.agg #[.slice bn N5 dn,.slice bf F5 df,.slice bx X5 dx,.slice bp P5 dp,.slice bS S5 ds],rfl,?_,?_⟩
      . exact⟨bn,bf,bx,bp,bS,dn,df,dx,dp,ds,by unfold machV;rw[hn5,hf5,hx5,hp5,hs5],HRM.out _ (by simp) (fun k hk=>by
         rw[qJ _ _ _ _ hk,qJ _ _ _ _ hk,qJ _ _ _ _ hk,qJ _ _ _ _ hk,qJ _ _ _ _ hk])⟩
      . repeat (first|refine xQ ?_ (by simp) _ | exact HB3.out)
   | false=>
    have HRDx:Hid _:=HRD2.out D r M' w3 hR3 HI'.out (by have:=HDX.out;omega) hB3
    have HX3:=qH hX3
    have HB3:=qH hB3
    have HO:=qH ho
    clear hR3 hX3 hB3 ho
    go_wp2_with fail
    refine qD HRDx.out ?_
    rintro e w4⟨rfl,hR4,hb4⟩
    have hX4:BX w4 w.heap.size (.slice an NN cn) (.slice af NF cf) (.slice ax NX cx) (.slice ap NP cp) (.slice aS NS cs):=BX.keep HX3.out (fun k hk=>hb4.block k (by have:=HDX.out;omega))
    have HB4:Hid (Bq w w4):=HB3.out.trans (hb4.mono (by have:=HDX.out;omega))
    clear hb4 HRDx HX3
    cases hw:(V8 M').2 with
    | false=>
     have Dc:=qH (show RES=(S9,8) by
      have h1:=Da.out
      cases hn:f wr with
      | zero=>
       rw[hn]at h1
       rcases h1 with⟨h2,_⟩|⟨_,_,h2⟩
       . rw[HO.out]at h2;cases h2
       . exact h2
      | succ n=>
       rw[hn]at h1
       have:=h1.2.1
       rw[hw]at this
       cases this)
     obtain⟨y0,y1,y2,y3,y4,yf⟩:=A3 hX4.2
     have yf0:=yf 0
     have yf1:=yf 1
     have yf2:=yf 2
     have yf3:=yf 3
     have yf4:=yf 4
     clear hR4 hX4 hw yf HF
     go_wp2_with fail
     (try simp only[Exit.inBlock,Exit.then])
     refine xA (v:=.tuple #[.agg #[.slice none 0 0,.slice none 0 0,.slice none 0 0,.slice none 0 0,.slice none 0 0],.int .i64 8]) ?_ rfl ?_
     . rw[results_cell_tmp rfl]
       go_simp
     . rw[Dc.out]
       exact⟨_,rfl,Z6.zero _ _,by repeat (first|refine xQ ?_ (by simp) _ | exact HB4.out)⟩
    | true=>
     have Of:∃n,f wr=n+1/\Fins n (V8 M').1 RES:=by
      have h1:=Da.out
      cases hn:f wr with
      | zero=>
       rw[hn]at h1
       rcases h1 with⟨h2,_⟩|⟨_,h2,_⟩
       . rw[HO.out]at h2;cases h2
       . rw[hw]at h2;cases h2
      | succ n=>
       rw[hn]at h1
       exact⟨n,rfl,h1.2.2⟩
     have HP4:=qH (show ∃k,∃M',l9 NoG w4 D r M'/\I M'/\Fins k M' RES from by
      obtain⟨n,_,h2⟩:=Of
      exact⟨n,_,hR4,Kt.out M' HI'.out,h2⟩)
     have HLT:=qH (show f w4<f wr by
      obtain⟨n,h1,h2⟩:=Of
      have:=(HF.out w4 n ⟨_,hR4,Kt.out M' HI'.out,h2⟩).2
      omega)
     have HX4:=qH hX4
     clear Of hR4 hX4 hw
     go_wp2_with fail
     go_roundw
     case rel=>exact⟨HP4,HX4,HB4⟩
     case measure=>exact HLT.out
 .
  obtain⟨K,hK⟩:=qE (mchk M);rw[<- hK]at HCK h0;rw[qF (by rw[<- hK];exact h0)]at Ai;rw[<- hK]at Ai;have Dc:=qH Ai;clear HST HRD HTO HI0 Ai hK;go_enter Tryz.func25,Tryz.ntmps25;go_wp2_with fail;obtain⟨W0,hW0⟩:=qE ((w.alloc (.cells #[.slice an NN cn,.slice af NF cf,.slice ax NX cx,.slice ap NP cp,.slice aS NS cs] 30)).alloc (.cells #[.slice none 0 0,.slice none 0 0,.slice none 0 0,.slice none 0 0,.slice none 0 0] 30));rw[<- hW0];have hB0:Bq w W0:=by rw[hW0];exact ((qI _ w).alloc (qB _) _).alloc (by simp) _
  have hX0:BX W0 w.heap.size (.slice an NN cn) (.slice af NF cf) (.slice ax NX cx) (.slice ap NP cp) (.slice aS NS cs):=by rw[hW0];exact⟨zm _ _ _,zn _ _ _⟩
  refine qD (HCK.out W0 hB0) ?_;rintro e w1⟨rfl,hb1⟩;have HB1:Hid (Bq w w1):=hB0.trans (hb1.mono hB0.size);have hX1:=BX.below hX0 hb1;obtain⟨y0,y1,y2,y3,y4,yf⟩:=A3 hX1.2;have yf0:=yf 0;have yf1:=yf 1;have yf2:=yf 2;have yf3:=yf 3;have yf4:=yf 4;clear hW0 hB0 hX0 hb1 hX1 HCK yf;go_wp2_with fail;(try simp only[Exit.inBlock,Exit.then])
  refine xA (v:=.tuple #[.agg #[.slice none 0 0,.slice none 0 0,.slice none 0 0,.slice none 0 0,.slice none 0 0],.int .i64 K]) ?_ rfl ?_
  . rw[results_cell_tmp rfl];go_simp
  . rw[Dc.out];exact⟨_,rfl,Z6.zero _ _,by repeat (first|refine xQ ?_ (by simp) _ | exact HB1.out)⟩
end Go.Proofs.YtllgglolcgdehaaGreatDoor
namespace Go.Gs
open Go.RowKit
def cnt(k:Int)(ns:List SNode):Nat:=ns.countP (fun n=>decide (n.kind=k))
theorem Q4(k:Int)(a b:List SNode):cnt k (a++b)=cnt k a+cnt k b:=by simp[cnt]
theorem al5(k:Int)(n:SNode):cnt k [n]=if n.kind=k then 1 else 0:=by simp[cnt,List.countP_cons]
theorem cnt_le(k:Int)(ns:List SNode):cnt k ns<=ns.length:=List.countP_le_length
theorem bK1(k:Int):∀(fr:List (List UInt8))(d:PD),cnt k (fr.foldl pSrc d).1=cnt k d.1+if k=1 then fr.length else 0
 | [],d=>by simp
 | f::r,d=>by
  rw[zQ,bK1 k r]
  simp only[pSrc,Q4,al5,srcN,qY]
  by_cases h:k=1
  . subst h;simp;omega
  . have h':¬(1:Int)=k:=fun e=>h e.symm
    simp[h,h']
theorem aS3{k:Int}(h:k≠4)(d:PD):cnt k (E9 d).1=cnt k d.1:=by
 have h':¬(4:Int)=k:=fun e=>h e.symm;unfold E9;split
 . simp[I3,Q4,al5,ah1,h']
 . rfl
theorem bX0{k:Int}{w:Nat}(h:k≠2\/w=1)(d:PD):cnt k (M6 w d).1=cnt k d.1:=by
 unfold M6;split
 .
  rename_i h1;rcases h with h | h
  . have h':¬(2:Int)=k:=fun e=>h e.symm;simp[Q4,al5,splitN,h']
  . exact absurd h h1.2
 . rfl
theorem bc7(k:Int)(c:Cmd):∀(op:List (Int × Int))(d:PD),cnt k (op.foldl (ah2 c) d).1=cnt k d.1+if k=3 then op.length else 0
 | [],d=>by simp
 | f::r,d=>by
  rw[zQ,bc7 k c r]
  simp only[ah2,Q4,al5,V6,qY]
  by_cases h:k=3
  . subst h;simp;omega
  . have h':¬(3:Int)=k:=fun e=>h e.symm
    simp[h,h']
theorem ci0{k:Int}(h:k≠4)(w:Nat)(c:Cmd)(d:PD):cnt k (aL2 w c d).1=cnt k d.1:=by
 have h':¬(4:Int)=k:=fun e=>h e.symm;unfold aL2;split
 . rfl
 . simp[I3,Q4,al5,ah1,h']
theorem co5{k:Int}{w:Nat}(h4:k≠4)(h2:k≠2\/w=1){d:PD}(hw:1<=w/\w<=5)(h:d.2.length=1\/d.2.length=w)(c:Cmd):cnt k (pCmd w d c).1=cnt k d.1+if k=3 then w else 0:=by obtain⟨a,_,_⟩:=av4 hw h;unfold pCmd J9;rw[ci0 h4,bc7,bX0 h2,a]
theorem bv8{k:Int}{w:Nat}(h4:k≠4)(h2:k≠2\/w=1)(hw:1<=w/\w<=5):∀(cs:List Cmd)(d:PD),(d.2.length=1\/d.2.length=w)->cnt k (cs.foldl (pCmd w) d).1=cnt k d.1+if k=3 then w*cs.length else 0
 | [],d,h=>by simp
 | c::r,d,h=>by
  rw[zQ,bv8 h4 h2 hw r _ (bl8 hw h c).1,co5 h4 h2 hw h]
  by_cases h3:k=3
  . simp[h3,Nat.mul_add];omega
  . simp[h3]
theorem ci1{l:SLine}{w:Nat}(hw:1<=w/\w<=5)(h:lchk l=0){k:Int}(h4:k≠4)(h2:k≠2\/w=1):cnt k (plan l w)=(if k=1 then l.fr.length else 0)+(if k=3 then w*l.cs.length else 0)+(if k=5 then 1 else 0):=by
 have h0:¬(l.fr.length<1\/4<l.fr.length\/6<l.cs.length):=by intro h1;unfold lchk at h;rw[qF h1]at h;cases h
 obtain⟨a,_⟩:=aW7 (fr:=l.fr) (by omega) (by omega);unfold plan as3;rw[Q4,aS3 h4];unfold J1;rw[bv8 h4 h2 hw _ _ (Or.inl a)];unfold aL3;rw[aS3 h4];unfold D8;rw[bK1,al5];have e:cnt k ([]:List SNode)=0:=rfl;simp only[aa0,e];by_cases h5:k=5
 . subst h5;simp
 . have h':¬(5:Int)=k:=fun e=>h5 e.symm;simp[h5,h']
def capB(ns:List SNode)(k:Nat):Nat:=4001*cnt 1 (ns.take k)+20*k
theorem bc8{ns:List SNode}{k:Nat}{n:SNode}(h:ns[k]? = some n):capB ns (k+1)=capB ns k+(if n.kind=1 then 4001 else 0)+20:=by unfold capB;rw[Y0 h,Q4,al5];split <;> omega
theorem bK2{ns:List SNode}(h60:ns.length<=60)(k:Nat)(hk:k<=ns.length):capB ns k<=250000:=by have:=cnt_le 1 (ns.take k);rw[qL]at this;unfold capB;omega
theorem bX1{ns:List SNode}{k:Nat}(hk:k<=ns.length):capB ns k<=capB ns ns.length:=by
 unfold capB;have h1:ns.take ns.length=ns.take k++ns.drop k:=by rw[qZ,qk]
 rw[h1,Q4];omega
theorem av1{n:SNode}(h:j9 n=0)(fs:List SFile)(hf:∀f∈fs,f.b.length<=4000)(ins:List (List UInt8))(hi:ins.length=n.ins.length)(hl:ins.flatten.length<=900000):
 (j0 n fs ins).flatten.length<=ins.flatten.length+(if n.kind=1 then 4001 else 0)+20:=by
 obtain⟨h1,h2,_⟩:=E8 h;unfold j0;rcases H7 h1 with⟨h3 | h3,_⟩|⟨h3,h4,h5⟩|⟨h3,h4⟩|⟨h3,h4⟩
 .
  rw[qF h3];have e1:=C0 (q8 fs n.file);have e2:(q8 fs n.file).length<=4000:=by
   unfold q8
   cases hq:fs.find? (fun f=>f.name==n.file) with
   | none=>simp
   | some f=>exact hf f (zW hq)
  rw[ah0];try rw[qF h3]
  omega
 . rw[qA (by omega),qA (by omega),qA (by omega),qA (by omega)];simp
 .
  rw[qA (by omega),qF h3,am8 _ _ (by omega)];have e1:=C0 (ins.head?.getD []);have e2:(ins.head?.getD []).length<=ins.flatten.length:=by
   cases ins with
   | nil=>simp
   | cons a r=>simp
  omega
 .
  rw[qA (by omega),qA (by omega),qF h3];have e1:=C0 (ins.head?.getD []);have e2:(ins.head?.getD []).length<=ins.flatten.length:=by
   cases ins with
   | nil=>simp
   | cons a r=>simp
  have e3:=ag9 n.c h4 (lines (ins.head?.getD [])) (by have:=D9 (ins.head?.getD []);omega);rw[ah0];omega
 . rw[qA (by omega),qA (by omega),qA (by omega),qF h3];have h5:ins.length<=5:=by rw[hi];unfold J0 at h2;rw[qA (by omega),qF h3]at h2;exact (qc h2).2
   have e1:=am7 n.how n.c (am6 h4) (ins.map lines) (by have:=X8 ins;omega) (by simpa using h5);have e2:=ac3 ins;rw[ah0];omega
def aS4(fs:List SFile)(ns:List SNode)(k:Nat):Prop:=
 ∃(tk:List (Int × Int))(L:H8),y8 [] ns []=y8 (ns.take k) (ns.drop k) tk/\H8.sum L<=capB ns k /\
  ∀p,A7 (ns.take k) p=true->p∉tk->(p,(f9 (j4 fs [] (ns.take k)) p).length)∈L
theorem aS5{fs:List SFile}{ns:List SNode}{k:Nat}{n:SNode}(hg:(y8 [] ns []).1=0)(ha:aS4 fs ns k)(hn:ns[k]? = some n):
 j9 n=0/\(∀p∈n.ins,A7 (ns.take k) p=true)/\((ns.drop (k+1)).isEmpty=decide (n.kind=5))/\(n.ins.map (f9 (j4 fs [] (ns.take k)))).flatten.length<=capB ns k:=by obtain⟨tk,L,h1,h2,h3⟩:=ha;rw[h1,Q6 hn]at hg;obtain⟨e1,e2,e3,e4⟩:=O5 hg;obtain⟨f1,f2,f3⟩:=U5 _ _ _ e2;refine⟨e1,fun p hp=>(f2 p hp).1,e3,?_⟩;obtain⟨L',g1,_⟩:=ac4 (fun p=>(f9 (j4 fs [] (ns.take k)) p).length) n.ins L f3 (fun p hp=>h3 p (f2 p hp).1 (f2 p hp).2);rw[am9,xh];have:(List.map (List.length ∘ f9 (j4 fs [] (ns.take k))) n.ins).sum=(List.map (fun p=>(f9 (j4 fs [] (ns.take k)) p).length) n.ins).sum:=rfl;omega
theorem bk3(fs:List SFile)(ns:List SNode):aS4 fs ns 0:=⟨[],[],by simp,by simp[H8.sum,capB],fun p h=>by
 obtain⟨i,j,n,_,hn,_⟩:=O4 h
 simp at hn⟩
theorem bv9{fs:List SFile}{ns:List SNode}{k:Nat}{n:SNode}(hf:∀f∈fs,f.b.length<=4000)(h60:ns.length<=60)(hg:(y8 [] ns []).1=0)(ha:aS4 fs ns k)(hn:ns[k]? = some n):aS4 fs ns (k+1):=by
 have hk:k<ns.length:=(gSm hn).1;obtain⟨q1,q2,q3,q4⟩:=aS5 hg ha hn;obtain⟨tk,L,h1,h2,h3⟩:=ha;have hg0:=hg;rw[h1,Q6 hn]at hg;obtain⟨e1,e2,e3,e4⟩:=O5 hg;obtain⟨f1,f2,f3⟩:=U5 _ _ _ e2;obtain⟨L',g1,g2⟩:=ac4 (fun p=>(f9 (j4 fs [] (ns.take k)) p).length) n.ins L f3 (fun p hp=>h3 p (f2 p hp).1 (f2 p hp).2);have hml:=av1 e1 fs hf (n.ins.map (f9 (j4 fs [] (ns.take k)))) (by simp) (by have:=bK2 h60 k (by omega);omega);obtain⟨outs,ho⟩:=qE (j0 n fs (n.ins.map (f9 (j4 fs [] (ns.take k)))));have Aw:=o5 e1 fs (n.ins.map (f9 (j4 fs [] (ns.take k))));have Am:=aq1 fs ns k hn;rw[<- ho]at hml Aw Am;refine⟨tk++n.ins,L'++(List.range outs.length).map (fun(j:Nat)=>(((k:Int),(j:Int)),(outs[j]?.getD []).length)),?_,?_,?_⟩
 . rw[h1,Q6 hn,e4,f1,Y0 hn]
 . rw[H8.sum_append,aW3];have hs:(n.ins.map (f9 (j4 fs [] (ns.take k)))).flatten.length=(List.map (fun p=>(f9 (j4 fs [] (ns.take k)) p).length) n.ins).sum:=by rw[am9,xh];rfl
   rw[bc8 hn];omega
 .
  intro p hp hpt;rw[xB,not_or]at hpt;obtain⟨i,j,m,rfl,hm,hj⟩:=O4 hp;rw[xB];have hik:i<(ns.take (k+1)).length:=(gSm hm).1;rw[qL]at hik;rw[Am];by_cases hlt:i<k
  .
   left;have hp':A7 (ns.take k) ((i:Int),(j:Int))=true:=by
    unfold A7;have hm':(ns.take k)[i]? = some m:=by rw[xj hlt];rwa [xj (by omega)]at hm
    simp only[qq,hm',qu,xG,zA,xx];refine⟨⟨⟨by omega,?_⟩,by omega⟩,hj⟩;rw[qL];omega
   have hin:=h3 _ hp' hpt.1;have hpa:f9 (j4 fs [] (ns.take k)++[outs]) ((i:Int),(j:Int))=f9 (j4 fs [] (ns.take k)) ((i:Int),(j:Int)):=by unfold f9;rw[xe (by rw[I2,qL];simp;omega)]
   rw[hpa];exact g2 _ hin hpt.2
  . right;have Rz:i=k:=by omega
    subst Rz;have hmn:m=n:=by rw[xj (by omega),hn]at hm;injection hm with hm;exact hm.symm
    subst hmn;rw[qg];refine⟨j,xt.2 (by omega),?_⟩;unfold f9;rw[qj (by rw[I2,qL];simp;omega),I2,qL,ql (by omega)];simp
theorem aS6{fs:List SFile}{ns:List SNode}(hf:∀f∈fs,f.b.length<=4000)(h60:ns.length<=60)(hg:(y8 [] ns []).1=0):∀k,k<=ns.length->aS4 fs ns k
 | 0,_=>bk3 fs ns
 | k+1,h=>by
  have hk:k<ns.length:=by omega
  exact bv9 hf h60 hg (aS6 hf h60 hg k (by omega)) (gEl hk)
theorem aB3:∀{l:List (List UInt8)}{b:List UInt8},b∈l->b.length<=l.flatten.length
 | [],b,h=>by simp at h
 | a::r,b,h=>by
  rw[qe,qG]
  rcases xP.1 h with rfl | h
  . omega
  . have:=aB3 h
    omega
theorem bw0{ns:List SNode}{fs:List SFile}(h:gchk ns=0)(hf:∀f∈fs,f.b.length<=4000)(hc:cnt 1 ns<=9):Z5 ns fs:=by
 intro i k;obtain⟨h1,h2,h3,_⟩:=aq2 h;rw[aP8]
 cases hn:ns[i]? with
 | none=>
  have:(j4 fs [] ns)[i]? = none:=by
   rw[List.getElem?_eq_none_iff]at hn ⊢
   rw[I2]
   simpa using hn
  rw[this]
  simp
 | some n=>
  have hi:i<ns.length:=(gSm hn).1
  obtain⟨q1,q2,q3,q4⟩:=aS5 h2 (aS6 hf h1 h2 i (by omega)) hn
  have h4:=bl6 fs ns hn (k:=ns.length) hi (qB _)
  rw[qZ]at h4
  rw[h4,xG]
  have hcb:=bK2 h1 i (by omega)
  have h5:=av1 q1 fs hf (n.ins.map (f9 (j4 fs [] (ns.take i)))) (by simp) (by omega)
  have h6:=bc8 hn
  have h7:=bX1 (ns:=ns) (k:=i+1) (by omega)
  have h8:capB ns ns.length<=37209:=by
   unfold capB
   rw[qZ]
   omega
  generalize j0 n fs (n.ins.map (f9 (j4 fs [] (ns.take i))))=L at *
  cases hk:L[k]? with
  | none=>simp
  | some b=>
   have:=aB3 (mGt hk)
   simp only[xG]
   omega
theorem bk4{l:SLine}{w:Nat}{fs:List SFile}(hw:1<=w/\w<=5)(h:lchk l=0)(hf:∀f∈fs,f.b.length<=4000):Z5 (plan l w) fs:=by refine bw0 (ac5 hw h) hf ?_;rw[ci1 hw h (by omega) (by omega)];have:=(an3 h).1.2.1;simp;omega
end Go.Gs
namespace Go.Proofs.YtllgglolcgdehaaGreatDoor
open Go.RowKit Go.Gs Go.Maps Tryz
theorem af2{ns:List SNode}{fs:List SFile}{room:Int}{M:SMach}(h:Go.Gs.Reach ns fs room M):M.ns=ns/\M.fs=fs:=by obtain⟨C,E,h⟩:=h;exact⟨h.ens,h.efs⟩
theorem bX2{ns : List SNode}{fs : List SFile}{room : Int}(hg : gchk ns = 0)(hf : fchk fs = 0)(hb : Z5 ns fs): InvM ns fs (Go.Gs.Reach ns fs room) :=
  ⟨fun M h => h.shape hg hf, fun M h => by
    obtain ⟨q1, q2, q3⟩ := aE1 (h.chk hg hf hb)
    exact bW7 q1 (fun p hp => ⟨fun b hb => by have := (q2 p hp).1 b hb; omega, fun b hb => by have := (q2 p hp).2 b hb; omega⟩) (by omega),
   fun M h => af2 h, fun M a h => h.step (F8 hg) a⟩
theorem bX3{M:SMach}(h:Shape M):∀p∈M.ps,(Lit.int .i64 p.pos).wf=true:=by
 intro p hp;obtain⟨i,hi⟩:=qb hp;obtain⟨n,hn⟩:∃n,M.ns[i]? = some n:=⟨_,gEl (by rw[<- h.plen];exact (gSm hi).1)⟩;have hF:=h.proc i n p hn hi;have h1:=(A2 (h.g.node n (mGt hn))).1;have h2:=hF.pos0;have h3:=hF.pos1;have h4:p.pos<=5:=by omega
 have h5:∀z:Int,0<=z->z<=5->(Lit.int .i64 z).wf=true:=by
  intro z h0 h5;have:z=0\/z=1\/z=2\/z=3\/z=4\/z=5:=by omega
  rcases this with rfl | rfl | rfl | rfl | rfl | rfl <;> rfl
 exact h5 _ h2 h4
theorem bG8{ns:List SNode}{fs:List SFile}{room:Int}{M:SMach}(hg:gchk ns=0)(hf:fchk fs=0)(hfn:∀n∈ns,S0 n)(hff:∀f∈fs,M9 f)(h:Go.Gs.Reach ns fs room M):FitsM M:=by obtain⟨h1,h2⟩:=af2 h;exact⟨by rw[h1];exact hfn,by rw[h2];exact hff,bX3 (h.shape hg hf)⟩
theorem bX4{ns:List SNode}{fs:List SFile}{room:Int}{M:SMach}(hg:gchk ns=0)(hf:fchk fs=0)(hb:Z5 ns fs)(Bh:1<=room)(h:Go.Gs.Reach ns fs room M):∃k r,Fins k M (r,0)/\overS r=true/\Go.Gs.Reach ns fs room r/\r.sunk=Go.Gs.sunk ns fs:=by obtain⟨k,r,hF⟩:=cq1 (h.shape hg hf);obtain⟨h1,h2,h3,h4⟩:=Go.Gs.Reach.fin hg hf hb Bh hF h;obtain⟨r,e⟩:=r;simp only at h1;subst h1;exact⟨k,r,hF,h2,h3,h4⟩
def pcell(r:Int):List Value:=[.slice none 0 0,.int .i64 r,.bool false,.bool false]
structure QS where
 il:Nat
 ol:Nat
 gg:Nat
 go:Nat
def qcell(q:QS):List Value:=[.slice (some ⟨q.gg,0,none⟩) q.il q.il,.int .i64 0,.slice (some ⟨q.go,0,none⟩) q.ol q.ol,.bool false,.bool false]
def ad6(w:World)(g n:Nat):Prop:=∀j,j<n->w.cell? ⟨g,j,none⟩=some (.slice none 0 0)
structure NewAt (w2 wr:World) (bM:Nat) (vN vF vX vP vS:Value) (L:List Int) (Q:List QS):Prop where
 bel:Below w2.heap.size w2 wr
 lo:w2.heap.size<=bM
 box:wr.heap[bM]? = some (.cells #[vN,vF,vX,vP,vS] 30 (0,0))
 rX:wr.ownsRow w2.heap.size 66 4 vX L.length (L.map pcell).flatten
 rP:wr.ownsRow w2.heap.size 76 5 vP Q.length (Q.map qcell).flatten
 nX:vX.ownBlock≠some bM
 nP:vP.ownBlock≠some bM
 nXP:∀g,vX.ownBlock=some g->vP.ownBlock≠some g
 lists:∀q∈Q,q.il<=1000/\q.ol<=1000/\ad6 wr q.gg q.il/\ad6 wr q.go q.ol/\∀g,g=q.gg\/g=q.go->g<wr.heap.size/\g≠bM/\vX.ownBlock≠some g/\vP.ownBlock≠some g/\w2.heap.size<=g
theorem aa6{w w':World}{g n:Nat}(h:ad6 w g n)(hk:w'.heap[g]? = w.heap[g]?):ad6 w' g n:=fun j hj=>by
 have:=h j hj
 simp only[World.cell?]at this ⊢
 rw[hk]
 exact this
theorem NewAt.below{w2 wr w':World}{bM:Nat}{vN vF vX vP vS:Value}{L:List Int}{Q:List QS}(h:NewAt w2 wr bM vN vF vX vP vS L Q)(hb:Bq wr w'):NewAt w2 w' bM vN vF vX vP vS L Q:=by have hbl:bM<wr.heap.size:=(aSm h.box).1;have hs:=hb.size;refine⟨h.bel.trans (hb.mono h.bel.size),h.lo,(hb.block _ hbl).trans h.box,l6 h.rX (fun g hg=>hb.block g (h.rX.lt g hg).2),l6 h.rP (fun g hg=>hb.block g (h.rP.lt g hg).2),h.nX,h.nP,h.nXP,fun q hq=>?_⟩;obtain⟨a1,a2,a3,a4,a5⟩:=h.lists q hq;refine⟨a1,a2,aa6 a3 (hb.block _ (a5 _ (.inl rfl)).1),aa6 a4 (hb.block _ (a5 _ (.inr rfl)).1),fun g hg=>?_⟩;obtain⟨b1,b2,b3,b4⟩:=a5 g hg;exact⟨by omega,b2,b3,b4⟩
theorem bX5:(prog.info? 66).map (fun i=>(i.zero,i.size,i.bytes))=some (some (.agg #[.slice none 0 0,.int .i64 0,.bool false,.bool false]),4,40):=ba3
theorem NewAt.pipe{w2 wr:World}{bM:Nat}{vN vF vX vP vS:Value}{L:List Int}{Q:List QS}(h:NewAt w2 wr bM vN vF vX vP vS L Q)(hL:L.length<=1000){ad:Addr}{c:Nat}{r:Int}(hc:∀j u,(pcell r)[j]? = some u->wr.cell? (ad.add j)=some u)(ty:TypeId):
 ∃v' w',(Builtin.append_ #[26,26] ty #[vX,.slice (some ad) 1 c]).run prog wr=.ok v' w'/\(∃a' c',v'=.slice a' (L.length+1) c')/\w'.heap[bM]? = wr.heap[bM]? /\ (∀g,g<wr.heap.size->g<w2.heap.size\/vX.ownBlock≠some g->w'.heap[g]? = wr.heap[g]?)/\(∀g,g<wr.heap.size->vX.ownBlock≠some g->v'.ownBlock≠some g)/\NewAt w2 (w'.setCell ⟨bM,2,none⟩ v') bM vN vF v' vP vS (L++[r]) Q:=by
 obtain⟨i0,hi,hi0,hi1,hi2⟩:=info_parts bX5;have hbl:bM<wr.heap.size:=(aSm h.box).1;obtain⟨v',w',hr,Ab,hg,_,hl⟩:=run_append_own_at (P:=prog) wr w2.heap.size 26 ty 66 i0 (.agg #[.slice none 0 0,.int .i64 0,.bool false,.bool false]) 4 40 underlying26 hi hi0 hi1 hi2 rfl (by decide) vX L.length (L.map pcell).flatten h.rX ad 1 c (pcell r) rfl hc (fun u hu=>by unfold pcell at hu;simp at hu;rcases hu with rfl | rfl | rfl | rfl <;> rfl) (by unfold maxLen;omega) (by omega) h.bel.size;have hk:∀g,g<wr.heap.size->vX.ownBlock≠some g->w'.heap[g]? = wr.heap[g]?:=fun g hgs hn=>hg.block g hgs (fun e=>hn e.symm);have hbM:w'.heap[bM]? = wr.heap[bM]?:=hk bM hbl h.nX;obtain⟨⟨a',c',hv',_,_⟩,_⟩:=j5 Ab;have hs:=hg.size;have hnX':v'.ownBlock≠some bM:=fun e=>by
  rcases hl with e1 | e1
  . exact h.nX (by rw[<- e1];exact e)
  . rw[e1]at e;injection e with e;omega
 have hk2:∀g,g≠bM->(w'.setCell ⟨bM,2,none⟩ v').heap[g]? = w'.heap[g]?:=fun g hg'=>qJ _ _ _ _ hg';have Og:∀g,g<w2.heap.size->vX.ownBlock≠some g:=fun g hg' e=>by have:=(h.rX.lt g e).1;omega
 have Aq:∀g,g<wr.heap.size->vX.ownBlock≠some g->v'.ownBlock≠some g:=fun g h1 h2 e=>by
  rcases hl with e1 | e1
  . exact h2 (by rw[<- e1];exact e)
  . rw[e1]at e;injection e with e;omega
 refine⟨v',w',hr,⟨a',c',hv'⟩,hbM,fun g h1 h2=>hk g h1 (by rcases h2 with h2 | h2;exact Og g h2;exact h2),Aq,?_⟩;refine⟨⟨hg.os.trans h.bel.os,hg.tape.trans h.bel.tape,hg.output.trans h.bel.output,by have:=h.bel.size;simp;omega,fun g hg'=>?_⟩,h.lo,?_,?_,?_,hnX',h.nP,fun g hg'=>?_,fun q hq=>?_⟩
 . rw[hk2 g (by have:=h.lo;omega),hk g (by have:=h.bel.size;omega) (Og g hg')];exact h.bel.block g hg'
 . have hb':=hbM.trans h.box;rw[zL w' bM 2 _ _ (0,0) v' hb'];exact zV w' bM _ _ _ _ hb'
 . rw[qz,List.flatten_append,qG];refine l6 ?_ (fun g hg'=>hk2 g (fun e=>hnX' (by rw[<- e];exact hg')));simpa using Ab
 . refine l6 h.rP (fun g hg'=>?_);rw[hk2 g (fun e=>h.nP (by rw[<- e];exact hg'))];exact hk g (h.rP.lt g hg').2 (fun e=>h.nXP g e hg')
 .
  rcases hl with e1 | e1
  . exact h.nXP g (by rw[<- e1];exact hg')
  . rw[e1]at hg';injection hg' with hg';intro e;have:=(h.rP.lt g e).2;omega
 . obtain⟨a1,a2,a3,a4,a5⟩:=h.lists q hq;have hq1:=a5 _ (.inl rfl);have hq2:=a5 _ (.inr rfl);refine⟨a1,a2,aa6 a3 ((hk2 _ hq1.2.1).trans (hk _ hq1.1 hq1.2.2.1)),aa6 a4 ((hk2 _ hq2.2.1).trans (hk _ hq2.1 hq2.2.2.1)),fun g hg'=>?_⟩;obtain⟨b1,b2,b3,b4⟩:=a5 g hg';exact⟨by simp;omega,b2,Aq g b1 b3,b4⟩
theorem NewAt.proc{w2 wr:World}{bM:Nat}{vN vF vX vP vS:Value}{L:List Int}{Q:List QS}(h:NewAt w2 wr bM vN vF vX vP vS L Q)(hQ:Q.length<=1000){ad:Addr}{c:Nat}{q:QS}(hc:∀j u,(qcell q)[j]? = some u->wr.cell? (ad.add j)=some u)(ty:TypeId)
 (hq:q.il<=1000/\q.ol<=1000/\ad6 wr q.gg q.il/\ad6 wr q.go q.ol/\∀g,g=q.gg\/g=q.go->g<wr.heap.size/\g≠bM/\vX.ownBlock≠some g/\vP.ownBlock≠some g/\w2.heap.size<=g):
 ∃v' w',(Builtin.append_ #[27,27] ty #[vP,.slice (some ad) 1 c]).run prog wr=.ok v' w'/\(∃a' c',v'=.slice a' (Q.length+1) c')/\w'.heap[bM]? = wr.heap[bM]? /\ (∀g,g<wr.heap.size->vP.ownBlock≠some g->w'.heap[g]? = wr.heap[g]?)/\Bq w2 w'/\NewAt w2 (w'.setCell ⟨bM,3,none⟩ v') bM vN vF vX v' vS L (Q++[q]):=by
 obtain⟨i0,hi,hi0,hi1,hi2⟩:=info_parts ba4;have hbl:bM<wr.heap.size:=(aSm h.box).1;obtain⟨v',w',hr,Ab,hg,_,hl⟩:=run_append_own_at (P:=prog) wr w2.heap.size 27 ty 76 i0 (.agg #[.slice none 0 0,.int .i64 0,.slice none 0 0,.bool false,.bool false]) 5 64 underlying27 hi hi0 hi1 hi2 rfl (by decide) vP Q.length (Q.map qcell).flatten h.rP ad 1 c (qcell q) rfl hc (fun u hu=>by unfold qcell at hu;simp at hu;rcases hu with rfl | rfl | rfl | rfl | rfl <;> rfl) (by unfold maxLen;omega) (by omega) h.bel.size;have hk:∀g,g<wr.heap.size->vP.ownBlock≠some g->w'.heap[g]? = wr.heap[g]?:=fun g hgs hn=>hg.block g hgs (fun e=>hn e.symm);have hbM:w'.heap[bM]? = wr.heap[bM]?:=hk bM hbl h.nP;obtain⟨⟨a',c',hv',_,_⟩,_⟩:=j5 Ab;have hs:=hg.size;have hnP':v'.ownBlock≠some bM:=fun e=>by
  rcases hl with e1 | e1
  . exact h.nP (by rw[<- e1];exact e)
  . rw[e1]at e;injection e with e;omega
 have hk2:∀g,g≠bM->(w'.setCell ⟨bM,3,none⟩ v').heap[g]? = w'.heap[g]?:=fun g hg'=>qJ _ _ _ _ hg';have Og:∀g,g<w2.heap.size->vP.ownBlock≠some g:=fun g hg' e=>by have:=(h.rP.lt g e).1;omega
 refine⟨v',w',hr,⟨a',c',hv'⟩,hbM,hk,⟨hg.os.trans h.bel.os,hg.tape.trans h.bel.tape,hg.output.trans h.bel.output,by have:=h.bel.size;omega,fun g hg'=>(hk g (by have:=h.bel.size;omega) (Og g hg')).trans (h.bel.block g hg')⟩,?_⟩;have Aq:∀g,g<wr.heap.size->vP.ownBlock≠some g->v'.ownBlock≠some g:=fun g h1 h2 e=>by
  rcases hl with e1 | e1
  . exact h2 (by rw[<- e1];exact e)
  . rw[e1]at e;injection e with e;omega
 refine⟨⟨hg.os.trans h.bel.os,hg.tape.trans h.bel.tape,hg.output.trans h.bel.output,by have:=h.bel.size;simp;omega,fun g hg'=>?_⟩,h.lo,?_,?_,?_,h.nX,hnP',fun g hg'=>?_,fun p hp=>?_⟩
 . rw[hk2 g (by have:=h.lo;omega),hk g (by have:=h.bel.size;omega) (Og g hg')];exact h.bel.block g hg'
 . have hb':=hbM.trans h.box;rw[zL w' bM 3 _ _ (0,0) v' hb'];exact zV w' bM _ _ _ _ hb'
 . refine l6 h.rX (fun g hg'=>?_);rw[hk2 g (fun e=>h.nX (by rw[<- e];exact hg'))];exact hk g (h.rX.lt g hg').2 (h.nXP g hg')
 . rw[qz,List.flatten_append,qG];refine l6 ?_ (fun g hg'=>hk2 g (fun e=>hnP' (by rw[<- e];exact hg')));simpa using Ab
 . exact Aq g (h.rX.lt g hg').2 (h.nXP g hg')
 .
  have key:p.il<=1000/\p.ol<=1000/\ad6 wr p.gg p.il/\ad6 wr p.go p.ol/\∀g,g=p.gg\/g=p.go->g<wr.heap.size/\g≠bM/\vX.ownBlock≠some g/\vP.ownBlock≠some g/\w2.heap.size<=g:=by
   rcases xB.1 hp with hp | hp
   . exact h.lists p hp
   . rw[xI.1 hp];exact hq
  obtain⟨a1,a2,a3,a4,a5⟩:=key;have hq1:=a5 _ (.inl rfl);have hq2:=a5 _ (.inr rfl);refine⟨a1,a2,aa6 a3 ((hk2 _ hq1.2.1).trans (hk _ hq1.1 hq1.2.2.2.1)),aa6 a4 ((hk2 _ hq2.2.1).trans (hk _ hq2.1 hq2.2.2.2.1)),fun g hg'=>?_⟩;obtain⟨b1,b2,b3,b4⟩:=a5 g hg';exact⟨by simp;omega,b2,b3,Aq g b1 b4.1,b4.2⟩
theorem NewAt.procX{w2 wr:World}{bM:Nat}{vN vF vX vP vS:Value}{L:List Int}{Q:List QS}(h:NewAt w2 wr bM vN vF vX vP vS L Q)(hQ:Q.length<=1000){y W:World}(hy:Bq wr y)(hW:Bq y W){ad gg go il ol:Nat}(hil:il<=1000)(hol:ol<=1000)(hgg:wr.heap.size<=gg/\gg<y.heap.size)(hgo:wr.heap.size<=go/\go<y.heap.size)
 {C1 C2:Array Value} (h1:y.heap[gg]? = some (.cells C1 28 (0,0))) (h2:y.heap[go]? = some (.cells C2 28 (0,0))) (p1:∀j,j<il->C1[j]? = some (.slice none 0 0)) (p2:∀j,j<ol->C2[j]? = some (.slice none 0 0))
 (h3:y.heap[ad]? = some (.cells #[.slice (some ⟨gg,0,none⟩) il il,.int .i64 0,.slice (some ⟨go,0,none⟩) ol ol,.bool false,.bool false] 76 (0,0))) (ty:TypeId):
 ∃v' w',(Builtin.append_ #[27,27] ty #[vP,.slice (some ⟨ad,0,none⟩) 1 1]).run prog W=.ok v' w'/\(∃a' c',v'=.slice a' (Q.length+1) c')/\w'.heap[bM]? = wr.heap[bM]? /\ (∀g,g<wr.heap.size->vP.ownBlock≠some g->w'.heap[g]? = wr.heap[g]?)/\(∀g,g<W.heap.size->vP.ownBlock≠some g->w'.heap[g]? = W.heap[g]?)/\Bq w2 w'/\NewAt w2 (w'.setCell ⟨bM,3,none⟩ v') bM vN vF vX v' vS L (Q++[⟨il,ol,gg,go⟩]):=by
 have hbW:Bq wr W:=hy.trans (hW.mono hy.size);have hN:=h.below hbW;have hs1:=hy.size;have hs2:=hW.size;have hbl:bM<wr.heap.size:=(aSm h.box).1;have hadl:ad<y.heap.size:=(aSm h3).1;have n1:ad6 W gg il:=fun j hj=>by rw[qV _ _ _ _ _ _ ((hW.block gg hgg.2).trans h1)];exact p1 j hj
 have n2:ad6 W go ol:=fun j hj=>by rw[qV _ _ _ _ _ _ ((hW.block go hgo.2).trans h2)];exact p2 j hj
 obtain⟨v',w',e1,e2,e3,e5,e6,e4⟩:=NewAt.proc hN hQ (ad:=⟨ad,0,none⟩) (c:=1) (q:=⟨il,ol,gg,go⟩) (fun j u hu=>by
  rw[addP,qV _ _ _ _ _ _ ((hW.block ad hadl).trans h3),qa]
  rw[<- xk]
  exact hu) ty ⟨hil,hol,n1,n2,fun g hg=>by
   have hgx:wr.heap.size<=g/\g<y.heap.size:=by
    rcases hg with rfl | rfl
    . exact hgg
    . exact hgo
   refine⟨by omega,by omega,fun e=>?_,fun e=>?_,by have:=h.bel.size;omega⟩
   . have:=(h.rX.lt g e).2
     omega
   . have:=(h.rP.lt g e).2
     omega⟩
 exact⟨v',w',e1,e2,e3.trans (hbW.block bM hbl),fun g hg hn=>(e5 g (by omega) hn).trans (hbW.block g hg),e5,e6,e4⟩
theorem bc9{w:World}{g n:Nat}(h:ad6 w g n)(hn:n<=1000):RList w (.slice (some ⟨g,0,none⟩) n n) U (List.replicate n []):=by
 refine⟨List.replicate n (.slice none 0 0),⟨by simp,_,n,by simp,by simp,by unfold maxLen;omega,fun _=>⟨g,0,rfl,fun j u hu=>?_⟩⟩,fun j b hb=>?_⟩
 .
  rw[xw]at hu;split at hu
  . rename_i hj;injection hu with hu;subst hu;rw[qa];exact h j hj
  . cases hu
 .
  rw[xw]at hb;split at hb
  . rename_i hj;injection hb with hb;subst hb;exact⟨.slice none 0 0,by rw[xw,qF hj],rnil⟩
  . cases hb
theorem NewAt.mach{w2 wr:World}{bM:Nat}{vN vF vX vP vS:Value}{L:List Int}{Q:List QS}(h:NewAt w2 wr bM vN vF vX vP vS L Q){ns:List SNode}{fs:List SFile}(hN:D4 w2 vN ns)(hF:j6 w2 vF fs){aS:Option Addr}{cs:Nat}(hS:vS=.slice aS 0 cs)(hcs:cs<=maxLen){M:SMach}(e1:M.ns=ns)(e2:M.fs=fs)(e3:M.pipes=L.map (fun r=>⟨[],r,false,false⟩))(e4:M.ps=Q.map (fun q=>⟨List.replicate q.il [],0,List.replicate q.ol [],false,false⟩))(e5:M.sunk=[])(w':World)(hk:∀g,w2.heap.size<=g->w'.heap[g]? = wr.heap[g]?)(hN':D4 w' vN ns)(hF':j6 w' vF fs):
 ∃an af ax ap cn cf cx cp,vN=.slice an M.ns.length cn/\vF=.slice af M.fs.length cf/\vX=.slice ax M.pipes.length cx/\vP=.slice ap M.ps.length cp/\RMach w' an af ax ap aS cn cf cx cp cs M:=by
 subst e1 e2;obtain⟨an,cn,eN,_,_⟩:=hN.shape;obtain⟨af,cf,eF,_,_⟩:=hF.shape;obtain⟨⟨ax,cx,eX,hx1,hx2⟩,hxf⟩:=j5 h.rX;obtain⟨⟨ap,cp,eP,hp1,hp2⟩,hpf⟩:=j5 h.rP;have hl1:M.pipes.length=L.length:=by rw[e3,qM]
 have hl2:M.ps.length=Q.length:=by rw[e4,qM]
 have Ac:∀g j u,w2.heap.size<=g->wr.cell? ⟨g,j,none⟩=some u->w'.cell? ⟨g,j,none⟩=some u:=fun g j u hg hu=>by have:=hk g hg;simp only[World.cell?]at hu ⊢;rw[this];exact hu
 refine⟨an,af,ax,ap,cn,cf,cx,cp,eN,eF,by rw[hl1];exact eX,by rw[hl2];exact eP,by rw[eN]at hN';exact hN',by rw[eF]at hF';exact hF',⟨ax,cx,rfl,by omega,hx2,fun hn=>?_⟩,⟨ap,cp,rfl,by omega,hp2,fun hn=>?_⟩,?_⟩
 .
  obtain⟨g,c,q1,_,_,_,hc,_⟩:=hxf (by omega);have hgl:=(h.rX.lt g (by rw[q1];rfl)).1;rw[eX]at q1;injection q1 with q1 _ _;refine⟨g,0,q1,fun j x hx=>?_⟩;rw[e3,qQ]at hx
  cases hr:L[j]? with
  | none=>rw[hr]at hx;cases hx
  | some r=>
   rw[hr]at hx
   simp only[qu,qW]at hx
   subst hx
   have hjl:j<L.length:=(gSm hr).1
   have hat:=Y9 (k:=4) (L.map pcell) j (pcell r) (fun y hy=>by obtain⟨z,_,rfl⟩:=qg.1 hy;rfl) (by rw[qQ,hr];rfl)
   rw[qa]
   exact⟨none,0,Ac g _ _ hgl ((hc (j*4) (by omega)).trans (hat 0 (by omega))),Ac g _ _ hgl ((hc (j*4+1) (by omega)).trans (hat 1 (by omega))),Ac g _ _ hgl ((hc (j*4+2) (by omega)).trans (hat 2 (by omega))),Ac g _ _ hgl ((hc (j*4+3) (by omega)).trans (hat 3 (by omega))),rnil⟩
 .
  obtain⟨g,c,q1,_,_,_,hc,_⟩:=hpf (by omega);have hgl:=(h.rP.lt g (by rw[q1];rfl)).1;rw[eP]at q1;injection q1 with q1 _ _;refine⟨g,0,q1,fun j p hp=>?_⟩;rw[e4,qQ]at hp
  cases hr:Q[j]? with
  | none=>rw[hr]at hp;cases hp
  | some q=>
   rw[hr]at hp
   simp only[qu,qW]at hp
   subst hp
   have hjl:j<Q.length:=(gSm hr).1
   obtain⟨a1,a2,a3,a4,a5⟩:=h.lists q (mGt hr)
   have hat:=Y9 (k:=5) (Q.map qcell) j (qcell q) (fun y hy=>by obtain⟨z,_,rfl⟩:=qg.1 hy;rfl) (by rw[qQ,hr];rfl)
   rw[qa]
   have Rr:(List.replicate q.il ([]:List UInt8)).length=q.il:=by simp
   have hlen2:(List.replicate q.ol ([]:List UInt8)).length=q.ol:=by simp
   refine⟨some ⟨q.gg,0,none⟩,q.il,some ⟨q.go,0,none⟩,q.ol,?_,Ac g _ _ hgl ((hc (j*5+1) (by omega)).trans (hat 1 (by omega))),?_,Ac g _ _ hgl ((hc (j*5+3) (by omega)).trans (hat 3 (by omega))),Ac g _ _ hgl ((hc (j*5+4) (by omega)).trans (hat 4 (by omega))),?_,?_⟩
   . simp only[Rr]
     exact Ac g _ _ hgl ((hc (j*5) (by omega)).trans (hat 0 (by omega)))
   . simp only[hlen2]
     exact Ac g _ _ hgl ((hc (j*5+2) (by omega)).trans (hat 2 (by omega)))
   . simp only[Rr]
     exact bc9 (aa6 a3 (hk _ (a5 _ (.inl rfl)).2.2.2.2)) a1
   . simp only[hlen2]
     exact bc9 (aa6 a4 (hk _ (a5 _ (.inr rfl)).2.2.2.2)) a2
 . rw[e5];exact⟨rfl,aS,cs,rfl,qP _,hcs,fun hn=>absurd rfl hn⟩
end Go.Proofs.YtllgglolcgdehaaGreatDoor
namespace Go.Gs
open Go.RowKit
section
variable {P:Program} {ops:Array Oper} {Q:Exit->Act->World->Prop}
theorem aS7{l:List Bool}{i:Nat}(h:l[i]? = some false):(l.set i true).count false+1=l.count false:=by
 induction l generalizing i with
 | nil=>simp at h
 | cons b l ih=>
  cases i with
  | zero=>
   simp only[xM,qW]at h
   subst h
   simp
  | succ i=>
   simp only[xu]at h
   have:=ih h
   simp only[List.set_cons_succ,List.count_cons]
   omega
theorem aS8{listed:Array Bool}{i:Nat}(h:listed.getD i true=false):listed.toList[i]? = some false/\i<listed.size:=by
 rw[qS]at h
 cases hl:listed[i]? with
 | none=>rw[hl]at h;cases h
 | some b=>
  rw[hl]at h
  simp only[xG]at h
  subst h
  exact⟨by simpa using hl,(aSm hl).1⟩
theorem bX6(hac : ∀(i : Nat)(o : Oper), ops[i]? = some o → ∀ e ∈ o.after, e.on < i)(Inv : (Nat → Bool) → Act → World → Prop)
    (As : ∀(L : Nat → Bool)(i : Nat)(o : Oper)(a : Act)(w : World), ops[i]? = some o → L i = false → (∀ e ∈ o.after, Region.binds .any e = true → L e.on = true) → Inv L a w → wpOp P ops Q i (fun a' w' => Inv (fun j => if j = i then true else L j) a' w') a w)
    (Cc : ∀(L : Nat → Bool)(a : Act)(w : World), (∀ i, i < ops.size → L i = true) → Inv L a w → Q .normal a w):
    ∀(fuel : Nat)(listed : Array Bool)(a : Act)(w : World), listed.size = ops.size → listed.toList.count false ≤ fuel → Inv (fun j => listed.getD j false) a w → wpAny P .any ops Q fuel listed a w := by
 have Ae : ∀(listed : Array Bool), listed.size = ops.size → Region.ready .any ops listed = [] → ∀ i, i < ops.size → listed.getD i false = true := by
  intro listed hs hr i
  induction i using Nat.strongRecOn with
  | ind i ih =>
    intro hi
    cases hl : listed[i]? with
    | none => rw [Array.getElem?_eq_none_iff]at hl; omega
    | some b =>
      cases b with
      | true => rw [qS, hl]; rfl
      | false =>
        exfalso
        have : i ∈ Region.ready .any ops listed := mem_ready.2 ⟨by rw [qS, hl]; rfl, ops[i], by simp [hi], fun e he hb => ih e.on (hac i _ (by simp [hi]) e he) (by have := hac i _ (show ops[i]? = some ops[i] by simp [hi]) e he; omega)⟩
        rw [hr]at this
        cases this
 intro fuel
 induction fuel with
 | zero =>
   intro listed a w hs hc hI
   have hr : Region.ready .any ops listed = [] := by
     rw [List.eq_nil_iff_forall_not_mem]
     intro i hi
     obtain ⟨h1, _⟩ := mem_ready.1 hi
     have h2 := (aS8 h1).1
     have : false ∈ listed.toList := zg h2
     have := List.count_pos_iff.2 this
     omega
   exact ⟨hr, Cc _ a w (Ae listed hs hr) hI⟩
 | succ fuel ih =>
   intro listed a w hs hc hI
   refine ⟨fun hr => Cc _ a w (Ae listed hs hr) hI, fun i hi => ?_⟩
   obtain ⟨h1, o, ho, h2⟩ := mem_ready.1 hi
   obtain ⟨h3, h4⟩ := aS8 h1
   have hLi : listed.getD i false = false := by rw [qS]; have : listed[i]? = some false := by simpa using h3
                                                rw [this]; rfl
   refine wpOp_mono ?_ (As _ i o a w ho hLi h2 hI)
   intro a' w' hI'
   refine ih _ a' w' (by simp [hs]) ?_ ?_
   . have := aS7 h3
     rw [Array.toList_setIfInBounds]
     omega
   . have e : (fun j => (listed.setIfInBounds i true).getD j false) = fun j => if j = i then true else listed.getD j false := by
       funext j
       by_cases hj : j = i
       . subst hj
         rw [qF rfl, qS, zb h4]
         rfl
       . rw [qA hj, getD_set_ne false (fun e => hj e.symm)]
     rw [e]
     exact hI'
theorem aV2{id:Nat}{a:Act}{w:World}(hm:P.follows .mixedOrders=true)(hac:((List.range ops.size).all fun i=>((ops[i]?).map (·.after.all fun e=>decide (e.on<i))).getD true)=true)(Inv:(Nat->Bool)->Act->World->Prop)
 (As:∀(L:Nat->Bool)(i:Nat)(o:Oper)(a:Act)(w:World),ops[i]? = some o->L i=false->(∀e∈o.after,Region.binds .any e=true->L e.on=true)->Inv L a w->wpOp P ops Q i (fun a' w'=>Inv (fun j=>if j=i then true else L j) a' w') a w)
 (Cc:∀(L:Nat->Bool)(a:Act)(w:World),(∀i,i<ops.size->L i=true)->Inv L a w->Q .normal a w)
 (h0:Inv (fun _=>false) a { w with drawn:=w.drawn+1 }):(Code.region id ops true).wp P Q a w:=by
 refine wp_region_any hm (bX6 ?_ Inv As Cc ops.size _ a _ (by simp) (by simp) ?_)
 . intro i o ho e he;have hi:i<ops.size:=(aSm ho).1;have:=zS.1 hac i (xt.2 hi);rw[ho]at this;simp only[qu,xG,Array.all_eq_true_iff_forall_mem,xx]at this;exact this e he
 .
  have e:(fun j=>(Array.replicate ops.size false).getD j false)=fun _=>false:=by
   funext j;rw[qS]
   cases h:(Array.replicate ops.size false)[j]? with
   | none=>rfl
   | some b=>
    have:=Array.mem_of_getElem? h
    rw[Array.mem_replicate]at this
    rw[this.2];rfl
  rw[e];exact h0
end
end Go.Gs
namespace Go.Gs
open Go.RowKit
def updV(L:Nat->Bool)(i:Nat):Nat->Bool:=fun j=>if j=i then true else L j
theorem ci2{a:Act}{d s:Nat}{v:Value}(h:s≠d):(a.put (some d) v).eval (.tmp s)=a.eval (.tmp s):=by simp only[Act.put,Act.eval];rw[qS,qS,Array.getElem?_setIfInBounds_ne (Ne.symm h)]
theorem ci4{a:Act}{d:Nat}{v:Value}(h:d<a.tmps.size):(a.put (some d) v).eval (.tmp d)=v:=by simp only[Act.put,Act.eval];rw[qS,zb h];rfl
structure OV (f n:Nat) (V:Nat->Value->World->Prop) (a0:Act) (W0:World) (L:Nat->Bool) (a:Act) (W:World):Prop where
 sz:a.tmps.size=a0.tmps.size
 df:a.defers=a0.defers
 be:Below W0.heap.size W0 W
 vs:∀i,i<n->L i=true->V i (a.eval (.tmp (f+i))) W
 fr:∀s,s<f\/f+n<=s->a.tmps[s]? = a0.tmps[s]?
theorem OV.old{f n:Nat}{V:Nat->Value->World->Prop}{a0:Act}{W0:World}{L:Nat->Bool}{a:Act}{W:World}(h:OV f n V a0 W0 L a W){s:Nat}(hs:s<f\/f+n<=s):a.eval (.tmp s)=a0.eval (.tmp s):=by simp only[Act.eval];rw[qS,qS,h.fr s hs]
theorem bw1(f:Nat)(g:Nat->Value)(a0:Act):∀m,f+m<=a0.tmps.size->((List.range m).foldl (fun b i=>b.put (some (f+i)) (g i)) a0).defers=a0.defers/\((List.range m).foldl (fun b i=>b.put (some (f+i)) (g i)) a0).tmps.size=a0.tmps.size /\
 ∀s:Nat,((List.range m).foldl (fun b i=>b.put (some (f+i)) (g i)) a0).tmps[s]? = if f<=s/\s<f+m then some (g (s-f)) else a0.tmps[s]?
 | 0,_=>⟨rfl,rfl,fun s=>by rw[qA (by omega)];rfl⟩
 | m+1,hm=>by
  obtain⟨h1,h2,h3⟩:=bw1 f g a0 m (by omega)
  rw[zl,List.foldl_append]
  simp only[zQ,List.foldl_nil]
  generalize (List.range m).foldl (fun b i=>b.put (some (f+i)) (g i)) a0=b at *
  refine⟨h1,by simp[Act.put,h2],fun s=>?_⟩
  simp only[Act.put]
  by_cases e:s=f+m
  . subst e
    rw[zb (by omega),qF (by omega)]
    congr 2
    omega
  . rw[Array.getElem?_setIfInBounds_ne (by omega),h3 s]
    by_cases e2:f<=s/\s<f+m
    . rw[qF e2,qF (by omega)]
    . rw[qA e2,qA (by omega)]
theorem OV.form{f n:Nat}{V:Nat->Value->World->Prop}{a0:Act}{W0:World}{L:Nat->Bool}{a:Act}{W:World}(h:OV f n V a0 W0 L a W)(hs:f+n<=a0.tmps.size):a=(List.range n).foldl (fun b i=>b.put (some (f+i)) (a.eval (.tmp (f+i)))) a0:=by
 obtain⟨h1,h2,h3⟩:=bw1 f (fun i=>a.eval (.tmp (f+i))) a0 n hs;generalize (List.range n).foldl (fun b i=>b.put (some (f+i)) (a.eval (.tmp (f+i)))) a0=b at *;have ht:a.tmps=b.tmps:=by
  apply Array.ext_getElem?;intro s;rw[h3 s];by_cases e:f<=s/\s<f+n
  . rw[qF e];have hlt:s<a.tmps.size:=by rw[h.sz];omega
    rw[zX hlt];simp only[Act.eval];rw[show f+(s-f)=s by omega,qS,zX hlt];rfl
  . rw[qA e];exact h.fr s (by omega)
 have hd:a.defers=b.defers:=by rw[h1,h.df]
 obtain⟨t1,d1⟩:=a;obtain⟨t2,d2⟩:=b;simp only at ht hd;subst ht hd;rfl
end Go.Gs
namespace Go.Proofs.YtllgglolcgdehaaGreatDoor
open Go.RowKit Go.Gs Go.Maps Tryz
def Zs(l:List Int):List Value:=l.map (fun e=>Value.int .i64 e)
def am1(b:Nat)(l:List Int)(w:World)(O:Nat->Option Own):Prop:=w.heap[b]? = some (.cells (Zs l).toArray 32 (0,0))/\O b=some .aux
theorem bw2(b:Nat)(l:List Int):ao8 (am1 b l):=by intro w w' O O' h hk hO;exact⟨(hk b h.2).trans h.1,(hO b _ h.2).trans h.2⟩
theorem bG9{w:World}{D r n:Nat}{M:SMach}(h:l9 NoG w D r M):l9 (am1 w.heap.size (List.replicate n 0)) (w.alloc (.cells (Zs (List.replicate n 0)).toArray 32)) D r M/\D<=w.heap.size:=by
 obtain⟨O,d,h1,hM⟩:=h;have hb:Bq w (w.alloc (.cells (Zs (List.replicate n 0)).toArray 32)):=(qI _ w).alloc (qB _) _
 have h2:RMem (w.alloc (.cells (Zs (List.replicate n 0)).toArray 32)) D r (fun k=>if k=w.heap.size then some .aux else O k) _ d:=RMem.grow h1 hb (fun k hk=>qA (by omega)) (fun g o hg hge=>by
  by_cases e:g=w.heap.size
  . simp[e]
  . simp only[qA e]at hg
    exact absurd (h1.lo g o hg).2 (by omega))
 exact⟨⟨_,d,RMem.auxTo h2 (bh2 _ _ _ _ (bw2 _ _)) ⟨(h2.part .aux).1,qN _ _,by simp⟩,hM⟩,RMem.le h1⟩
theorem ci5{w:World}{D r b k:Nat}{l:List Int}{M:SMach}{e:Int}(h:l9 (am1 b l) w D r M):l9 (am1 b (l.set k e)) (w.setCell ⟨b,k,none⟩ (.int .i64 e)) D r M/\D<=b:=by
 obtain⟨O,d,h1,hM⟩:=h;obtain⟨⟨a1,a2,bm,nm,a3,a4,a5⟩,s1,s2⟩:=h1.part .aux;have hD:=(h1.lo _ _ s2).1;have hrb:r≠b:=fun e=>by have:=h1.box.2;rw[e,s2]at this;exact absurd this (by simp)
 have hbm:bm≠b:=fun e=>by obtain⟨_,⟨es,clock,m1,_⟩,_⟩:=a4;rw[e,s1]at m1;exact absurd m1 (by simp)
 have hI:∀g,d.vI.ownBlock=some g->g≠b:=fun g hg e=>by
  rcases a1.2 with⟨q,_⟩|⟨g',cap,cur,q1,_,q3,_⟩
  . rw[q]at hg;simp[Value.ownBlock]at hg
  . rw[q1]at hg;simp[Value.ownBlock]at hg;rw[hg,e,s1]at q3;exact absurd q3 (by simp)
 have An:(w.setCell ⟨b,k,none⟩ (.int .i64 e)).heap[b]? = some (.cells (Zs (l.set k e)).toArray 32 (0,0)):=by rw[zL w b k _ _ (0,0) _ s1,zV w b _ _ _ _ s1];unfold Zs;rw[List.map_set];simp
 have h2:=RMem.swap (A':=fun w O=>AuxF D d.vI d.vM d.M.ns w O/\am1 b (l.set k e) w O) h1 (w':=w.setCell ⟨b,k,none⟩ (.int .i64 e)) (O':=O) d.vI rfl rfl rfl (by simp) (fun j _ _ hj=>qJ _ _ _ _ (fun q=>hj (by rw[q];exact s2))) (fun _ _=>rfl) (fun g o hg=>by have:=h1.lo g o hg;exact⟨this.1,by simpa using this.2⟩)
  ((qJ _ _ _ _ hrb).trans h1.box.1) (bh2 _ _ _ _ (bw2 _ _)) ⟨⟨l6 a1 (fun g hg=>qJ _ _ _ _ (hI g hg)),a2,bm,nm,a3,a4.keep (qJ _ _ _ _ hbm),a5⟩,An,s2⟩
 exact⟨⟨O,d,h2,hM⟩,hD⟩
theorem l9.said{w:World}{D r b:Nat}{l:List Int}{M:SMach}(h:l9 (am1 b l) w D r M):w.heap[b]? = some (.cells (Zs l).toArray 32 (0,0))/\D<=b/\b≠r:=by obtain⟨O,d,h1,hM⟩:=h;obtain⟨_,s1,s2⟩:=h1.part .aux;exact⟨s1,(h1.lo _ _ s2).1,fun e=>by have:=h1.box.2;rw[<- e,s2]at this;exact absurd this (by simp)⟩
theorem bX7{w:World}{b k:Nat}{l:List Int}{t:TypeId}(h:w.heap[b]? = some (.cells (Zs l).toArray t (0,0)))(hk:k<l.length):w.cell? ⟨b,k,none⟩=some (.int .i64 (l[k]'hk))/\w.frozen? ⟨b,k,none⟩=false:=by
 constructor
 . simp[World.cell?,h,Zs,hk]
 . simp[World.frozen?,h]
theorem bH0{w:World}{b:Nat}{l:List Int}{t:TypeId}(h:w.heap[b]? = some (.cells (Zs l).toArray t (0,0)))(hl:l.length<=40000):Reads w (.slice (some ⟨b,0,none⟩) l.length l.length) l.length (Zs l):=by refine⟨by simp[Zs],some ⟨b,0,none⟩,l.length,rfl,qB _,by unfold maxLen;omega,fun _=>⟨b,0,rfl,fun j u hj=>?_⟩⟩;simp only[qa];simp[World.cell?,h,hj]
theorem bd0{w:World}{ao:Option Addr}{n cap:Nat}{xs:List Value}(h:Reads w (.slice ao n cap) n xs):n<=cap/\cap<=9223372036854775807:=by obtain⟨_,ao',c,e,h1,h2,_⟩:=h;unfold maxLen at h2;injection e with e1 e2 e3;omega
theorem bX8{w:World}{ao:Option Addr}{n cap:Nat}{xs:List Value}(h:Reads w (.slice ao n cap) n xs){j:Nat}{u:Value}(hj:xs[j]? = some u):∃b off,ao=some ⟨b,off,none⟩/\w.cell? ⟨b,off+j,none⟩=some u:=by obtain⟨hl,ao',c,e,h1,h2,h3⟩:=h;injection e with e1 e2 e3;subst e1;have:=(gSm hj).1;obtain⟨b,off,q,hc⟩:=h3 (by omega);exact⟨b,off,q,hc j u hj⟩
theorem aI5:∀(l:List Int)(M:SMach)(i:Int),t7 M (l++[i])=((stepS (t7 M l).1 i).1,(t7 M l).2++[(stepS (t7 M l).1 i).2])
 | [],M,i=>rfl
 | a::l,M,i=>by
  show ((t7 (stepS M a).1 (l++[i])).1,(stepS M a).2::(t7 (stepS M a).1 (l++[i])).2)=_
  rw[aI5 l]
  rfl
theorem al6:∀(l:List Int)(M:SMach),(t7 M l).2.length=l.length
 | [],M=>rfl
 | a::l,M=>by
  show (_::(t7 (stepS M a).1 l).2).length=_
  rw[qY,al6 l,qY]
theorem InvM.stepS{ns:List SNode}{fs:List SFile}{I:SMach->Prop}(h:InvM ns fs I){M:SMach}(hM:I M)(i:Int):I (stepS M i).1:=by
 unfold Go.Gs.stepS;split
 . exact hM
 . exact h.step M _ hM
theorem InvM.picks{ns:List SNode}{fs:List SFile}{I:SMach->Prop}(h:InvM ns fs I):∀(l:List Int)(M:SMach),I M->I (t7 M l).1
 | [],M,hM=>hM
 | i::l,M,hM=>h.picks l _ (h.stepS hM i)
theorem bX9{M:SMach}{l:List Int}{k n:Nat}{i:Int}(hn:n=l.length)(hk:k<n)(hi:l[k]? = some i):(((t7 M (l.take k)).2++List.replicate (n-k) 0).set k (stepS (t7 M (l.take k)).1 i).2)=(t7 M (l.take (k+1))).2++List.replicate (n-(k+1)) 0/\(t7 M (l.take (k+1))).1=(stepS (t7 M (l.take k)).1 i).1:=by
 have e1:l.take (k+1)=l.take k++[i]:=by rw[qX,hi];rfl
 have e2:(t7 M (l.take k)).2.length=k:=by rw[al6,qL];omega
 have e3:List.replicate (n-k) (0:Int)=0::List.replicate (n-(k+1)) 0:=by rw[<- List.replicate_succ];congr 1;omega
 rw[e1,aI5];refine⟨?_,rfl⟩;rw[e3,zC _ _ (by omega),e2,zE];simp
def runR(M:SMach)(l:List Int):SMach × List Int × Int:=if mchk M≠0 then (S9,[],mchk M) else if 40000<l.length then (S9,[],2) else ((t7 M l).1,(t7 M l).2,0)
theorem bH1:(prog.info? 32).map (fun i=>(i.zero,i.size,i.bytes))=some (some (.int .i64 0),1,8):=by kernel_rfl
theorem co6(an af ax ap aS aq:Option Addr)(cn cf cx cp cs cq:Nat)(M:SMach)(l:List Int)(w:World)(h:RMach w an af ax ap aS cn cf cx cp cs M)(hq:Reads w (.slice aq l.length cq) l.length (Zs l))(Ad:FitsM M)(hE:∀W,Bq w W->D6 W)
 (I:SMach->Prop) (hI:mchk M=0->InvM M.ns M.fs I) (hM:mchk M=0->I M):
 Calls prog 24 #[machV an af ax ap aS M cn cf cx cp cs,.slice aq l.length cq] w fun e w'=>∃v s,e=.returned (.tuple #[v,s,.int .i64 (runR M l).2.2])/\Z6 w.heap.size w' v (runR M l).1/\Reads w' s (runR M l).2.1.length (Zs (runR M l).2.1)/\Bq w w':=by
 have HCK:=qH (show ∀W,Bq w W->Calls prog 18 #[machV an af ax ap aS M cn cf cx cp cs] W fun e w'=>e=.returned (.int .i64 (mchk M))/\Bq W w' from fun W hW=>aS2 an af ax ap aS cn cf cx cp cs M W (h.below hW) Ad)
 have HST:=qH (show mchk M=0->∀W,Bq w W->Calls prog 56 #[machV an af ax ap aS M cn cf cx cp cs] W fun e w'=>∃D r,e=.returned (.pointer (some ⟨r,0,none⟩))/\l9 NoG w' D r M/\W.heap.size<=D/\Bq W w' from fun h0 W hW=>by
  obtain⟨q1,q2,q3⟩:=aE1 h0
  exact aS1 an af ax ap aS cn cf cx cp cs M W (h.below hW) (bc6 q1 (fun p hp=>⟨fun b hb=>by have:=(q2 p hp).1 b hb;omega,fun b hb=>by have:=(q2 p hp).2 b hb;omega⟩) (by omega)) q1 Ad.nodes)
 have HSP:Hid (mchk M=0->∀(b:Nat)(L:List Int)(D r:Nat)(M':SMach)(i:Int)(W:World),l9 (am1 b L) W D r M'->I M'->w.heap.size<=D->Bq w W->Calls prog 57 #[.pointer (some ⟨r,0,none⟩),.int .i64 i] W fun e w'=>e=.returned (.int .i64 (stepS M' i).2)/\l9 (am1 b L) w' D r (stepS M' i).1/\Below D W w'):=(show mchk M=0->∀(b:Nat)(L:List Int)(D r:Nat)(M':SMach)(i:Int)(W:World),_ from fun h0 b L D r M' i W hR hI' hD hW=>by
  obtain⟨O,d,hR1,rfl⟩:=hR
  exact bv4 D r O d i W hR1 ((hI h0).shape _ hI') (by rw[((hI h0).nodes _ hI').1];exact Ad.nodes) ((hI h0).small _ hI') (fun V hV=>hE V (hW.trans (hV.mono hD))))
 have HTO:=qH (show mchk M=0->∀k,I (t7 M (l.take k)).1 from fun h0 k=>(hI h0).picks _ _ (hM h0));have HQ:=qH hq;have hle:=bd0 hq;unfold machV at HCK HST ⊢;obtain⟨RES,Ai⟩:=qE (runR M l);rw[<- Ai];unfold runR at Ai;obtain⟨n,hn⟩:=qE l.length;have HN:=qH hn;rw[<- hn]at HQ hle Ai ⊢;generalize M.ns.length=NN at *;generalize M.fs.length=NF at *;generalize M.pipes.length=NX at *;generalize M.ps.length=NP at *;generalize M.sunk.length=NS at *;clear h Ad hE hI hM hq hn;by_cases h0:mchk M=0
 .
  have Ks:Hid _:=HST.out h0;have Gm:Hid _:=HSP.out h0;have Kt:Hid _:=HTO.out h0;rw[qA (by simpa using h0)]at Ai;rw[h0]at HCK;clear HST HSP HTO h0;by_cases h4:40000<n
  .
   have Dc:=qH (show RES=(S9,[],2) by rw[Ai,qF h4]);clear Ai;go_enter Tryz.func24,Tryz.ntmps24;go_wp2_with fail;obtain⟨W0,hW0⟩:=qE ((w.alloc (.cells #[.slice an NN cn,.slice af NF cf,.slice ax NX cx,.slice ap NP cp,.slice aS NS cs] 30)).alloc (.cells #[.slice none 0 0,.slice none 0 0,.slice none 0 0,.slice none 0 0,.slice none 0 0] 30));rw[<- hW0];have hB0:Bq w W0:=by rw[hW0];exact ((qI _ w).alloc (qB _) _).alloc (by simp) _
   have hX0:BX W0 w.heap.size (.slice an NN cn) (.slice af NF cf) (.slice ax NX cx) (.slice ap NP cp) (.slice aS NS cs):=by rw[hW0];exact⟨zm _ _ _,zn _ _ _⟩
   refine qD (HCK.out W0 hB0) ?_;rintro e w1⟨rfl,hb1⟩;have HB1:Hid (Bq w w1):=hB0.trans (hb1.mono hB0.size);have hX1:=BX.below hX0 hb1;obtain⟨y0,y1,y2,y3,y4,yf⟩:=A3 hX1.2;have yf0:=yf 0;have yf1:=yf 1;have yf2:=yf 2;have yf3:=yf 3;have yf4:=yf 4;clear hW0 hB0 hX0 hb1 hX1 HCK yf Ks Gm Kt HQ;go_wp2_with fail;(try simp only[Exit.inBlock,Exit.then])
   refine xA (v:=.tuple #[.agg #[.slice none 0 0,.slice none 0 0,.slice none 0 0,.slice none 0 0,.slice none 0 0],.slice none 0 0,.int .i64 2]) ?_ rfl ?_
   . rw[o7 rfl];go_simp
   . rw[Dc.out];exact⟨_,_,rfl,Z6.zero _ _,rnil,by repeat (first|refine xQ ?_ (by simp) _ | exact HB1.out)⟩
  .
   have Dc:=qH (show RES=((t7 M l).1,(t7 M l).2,0) by rw[Ai,qA h4]);clear Ai;go_enter Tryz.func24,Tryz.ntmps24;go_wp2_with fail;obtain⟨W0,hW0⟩:=qE ((w.alloc (.cells #[.slice an NN cn,.slice af NF cf,.slice ax NX cx,.slice ap NP cp,.slice aS NS cs] 30)).alloc (.cells #[.slice none 0 0,.slice none 0 0,.slice none 0 0,.slice none 0 0,.slice none 0 0] 30));rw[<- hW0];have hB0:Bq w W0:=by rw[hW0];exact ((qI _ w).alloc (qB _) _).alloc (by simp) _
   have hX0:BX W0 w.heap.size (.slice an NN cn) (.slice af NF cf) (.slice ax NX cx) (.slice ap NP cp) (.slice aS NS cs):=by rw[hW0];exact⟨zm _ _ _,zn _ _ _⟩
   refine qD (HCK.out W0 hB0) ?_;rintro e w1⟨rfl,hb1⟩;have HB1:Hid (Bq w w1):=hB0.trans (hb1.mono hB0.size);have hX1:=BX.below hX0 hb1;obtain⟨x0,x1,x2,x3,x4,_⟩:=A3 hX1.1;have HX1:=qH hX1;clear hW0 hB0 hX0 hb1 hX1 HCK;go_wp2_with fail;refine qD (Ks.out w1 HB1.out) ?_;rintro e w2⟨D,r,rfl,hR2,hD,hb2⟩;have hB2:Bq w w2:=HB1.out.trans (hb2.mono HB1.out.size);have hX2:BX w2 w.heap.size (.slice an NN cn) (.slice af NF cf) (.slice ax NX cx) (.slice ap NP cp) (.slice aS NS cs):=BX.below HX1.out hb2;have HDX:=qH (show w.heap.size+2<=D by have:=BX.lt HX1.out;omega);obtain⟨hR3,hD3⟩:=bG9 (n:=n) hR2;obtain⟨i0,hi,hi0,hi1,hi2⟩:=info_parts bH1;have hmk:∀(W:World),(Instr.makeSlice 46 (.int .i64 (n:Int)) (.int .i64 (n:Int))).run prog W=.ok (.slice (some ⟨W.heap.size,0,none⟩) n n) (W.alloc (.cells (Zs (List.replicate n 0)).toArray 32)):=fun W=>by
    have:=run_makeSlice (P:=prog) W 46 32 i0 (.int .i64 0) underlying46 hi hi0 .i64 .i64 (n:Int) (n:Int) (by omega) (by omega) (by rw[hi1];omega) (by rw[hi2];omega) (by omega);rw[hi1,qq,Nat.mul_one]at this;rw[this];have e:madeCells (Value.int .i64 0).cells n=(Zs (List.replicate n 0)).toArray:=by apply Array.toList_inj.1;have h1:=zF (.int .i64 0) n;show (madeCells #[Value.int .i64 0] n).toList=_;rw[h1];simp[Zs]
    rw[e]
   obtain⟨B,hB⟩:=qE w2.heap.size;obtain⟨W3,hW3⟩:=qE (w2.alloc (.cells (Zs (List.replicate n 0)).toArray 32));have hb3:Bq w2 W3:=by rw[hW3];exact (qI _ w2).alloc (qB _) _
   have HR3:=qH (show l9 (am1 B (List.replicate n 0)) W3 D r M by rw[hB,hW3];exact hR3);have HB3:Hid (Bq w W3):=hB2.trans (hb3.mono hB2.size);have HX3:Hid (BX W3 w.heap.size (.slice an NN cn) (.slice af NF cf) (.slice ax NX cx) (.slice ap NP cp) (.slice aS NS cs)):=BX.below hX2 hb3;have hmk2:(Instr.makeSlice 46 (.int .i64 (n:Int)) (.int .i64 (n:Int))).run prog w2=.ok (.slice (some ⟨B,0,none⟩) n n) W3:=by rw[hmk w2,hB,hW3]
   clear hR2 hD hb2 hX2 HX1 x0 x1 x2 x3 x4 Ks hmk hR3 hD3 hW3 hb3 hB2 hB hi hi0 hi1 hi2;go_wp2_with fail;clear hmk2;go_loopw [29] (fun z wr=>∃k:Nat,k<=n/\z=.int .i64 k/\Hid (l9 (am1 B ((t7 M (l.take k)).2++List.replicate (n-k) 0)) wr D r (t7 M (l.take k)).1)/\Hid (BX wr w.heap.size (.slice an NN cn) (.slice af NF cf) (.slice ax NX cx) (.slice ap NP cp) (.slice aS NS cs))/\Hid (Bq w wr)) (fun z _=>n-(intOf z).toNat)
   case atStart=>exact⟨0,qP _,rfl,HR3,HX3,HB3⟩
   case round=>
    obtain⟨k,hk,rfl,hR,hX,hBw⟩:=hrel;clear HR3 HX3 HB3;by_cases hlt:k<n
    .
     obtain⟨i,hi⟩:∃i,l[k]? = some i:=⟨_,gEl (by have:=HN.out;omega)⟩;obtain⟨bq,oq,rfl,hcq⟩:=bX8 (HQ.out.below hBw.out) (j:=k) (u:=.int .i64 i) (by simp[Zs,hi]);have HC:Hid _:=Gm.out B _ D r _ i wr hR.out (Kt.out k) (by have:=HDX.out;omega) hBw.out;have HNX:Hid _:=bX9 (M:=M) HN.out hlt hi;obtain⟨E,hEe⟩:=qE ((stepS (t7 M (l.take k)).1 i).2);rw[<- hEe]at HC HNX;clear hR hi hEe;go_wp2_with fail;refine qD HC.out ?_;rintro e w3⟨rfl,hR3,hb3⟩;obtain⟨s1,s2,s3⟩:=hR3.said;have hll:((t7 M (l.take k)).2++List.replicate (n-k) (0:Int)).length=n:=by rw[qG,al6,qL,List.length_replicate];have:=HN.out;omega
     obtain⟨c0,c1⟩:=bX7 (k:=k) s1 (by rw[hll];exact hlt)
     have HR4:=qH (show l9 (am1 B ((t7 M (l.take (k+1))).2++List.replicate (n-(k+1)) 0)) (w3.setCell ⟨B,k,none⟩ (.int .i64 E)) D r (t7 M (l.take (k+1))).1 by
      rw[<- HNX.out.1,HNX.out.2]
      exact (ci5 hR3).1)
     have HB4:=qH (show Bq w (w3.setCell ⟨B,k,none⟩ (.int .i64 E)) from xQ (hBw.out.trans (hb3.mono (by have:=HDX.out;omega))) (show w.heap.size<=B by have:=HDX.out;omega) _);have HX4:=qH (show BX (w3.setCell ⟨B,k,none⟩ (.int .i64 E)) w.heap.size (.slice an NN cn) (.slice af NF cf) (.slice ax NX cx) (.slice ap NP cp) (.slice aS NS cs) from BX.other (BX.keep hX.out (fun j hj=>hb3.block j (by have:=HDX.out;omega))) (show w.heap.size+1<B by have:=HDX.out;omega));generalize ((t7 M (l.take k)).2++List.replicate (n-k) (0:Int))[k]'(by rw[hll];exact hlt)=cold at c0;clear hR3 hb3 HC s1 s2 s3 hll;go_wp2_with fail;go_roundw
     case rel=>exact⟨k+1,by omega,by go_num,HR4,HX4,HB4⟩
     case measure=>simp[intOf];omega
    .
     have e:k=n:=by omega
     subst e;have HTK:=qH (show l.take k=l from qO (by have:=HN.out;omega));have hR3:l9 (am1 B (t7 M l).2) wr D r (t7 M l).1:=by have:=hR.out;rw[HTK.out,zE]at this;simpa using this
     obtain⟨s1,s2,s3⟩:=hR3.said;obtain⟨hrD,bn,bf,bx,bp,bS,dn,df,dx,dp,ds,vI,vM,Bf,hRM⟩:=l9.machX hR3;have hX3:=hX.out;have HRM:Hid (∀(w':World),w'.heap.size=wr.heap.size->(∀k,k≠w.heap.size+1->w'.heap[k]? = wr.heap[k]?)->aB2 w.heap.size w' bn bf bx bp bS dn df dx dp ds (t7 M l).1):=(show ∀(w':World),_ from fun w' h1 h2=>aw8 hRM (by have:=HDX.out;omega) (bK0 hX3) (by omega) h1 h2)
     have HSD:Hid (∀(w':World),(∀k,k≠w.heap.size+1->w'.heap[k]? = wr.heap[k]?)->Reads w' (.slice (some ⟨B,0,none⟩) k k) (t7 M l).2.length (Zs (t7 M l).2)):=(show ∀(w':World),_ from fun w' h2=>by
      have e1:(t7 M l).2.length=k:=by rw[al6];exact HN.out.symm
      have:=bH0 (w:=w') (l:=(t7 M l).2) ((h2 B (by have:=HDX.out;omega)).trans s1) (by omega)
      rw[e1]at this ⊢
      exact this)
     obtain⟨c0,c1,c2,c3,c4,_,_⟩:=K6 Bf;have hrw:r≠w.heap.size+1:=by have:=HDX.out;omega
     have hrw':w.heap.size+1≠r:=by omega
     obtain⟨y0,y1,y2,y3,y4,yf⟩:=A3 hX3.2;have yf0:=yf 0;have yf1:=yf 1;have yf2:=yf 2;have yf3:=yf 3;have yf4:=yf 4;generalize hn5:(t7 M l).1.ns.length=N5 at *;generalize hf5:(t7 M l).1.fs.length=F5 at *;generalize hx5:(t7 M l).1.pipes.length=X5 at *;generalize hp5:(t7 M l).1.ps.length=P5 at *;generalize hs5:(t7 M l).1.sunk.length=S5 at *;clear hR hX hR3 hX3 Bf hRM yf s1 s2 s3 Gm Kt;go_wp2_with fail;(try simp only[Exit.inBlock,Exit.then])
     refine xA (v:=.tuple #[.agg #[.slice bn N5 dn,.slice bf F5 df,.slice bx X5 dx,.slice bp P5 dp,.slice bS S5 ds],.slice (some ⟨B,0,none⟩) k k,.int .i64 0]) ?_ rfl ?_
     . rw[o7 rfl];go_simp
     . rw[Dc.out];refine⟨.agg #[.slice bn N5 dn,.slice bf F5 df,.slice bx X5 dx,.slice bp P5 dp,.slice bS S5 ds],.slice (some ⟨B,0,none⟩) k k,rfl,?_,?_,?_⟩
       . exact⟨bn,bf,bx,bp,bS,dn,df,dx,dp,ds,by unfold machV;rw[hn5,hf5,hx5,hp5,hs5],HRM.out _ (by simp) (fun k hk=>by
          rw[qJ _ _ _ _ hk,qJ _ _ _ _ hk,qJ _ _ _ _ hk,qJ _ _ _ _ hk,qJ _ _ _ _ hk])⟩
       . exact HSD.out _ (fun k hk=>by
          rw[qJ _ _ _ _ hk,qJ _ _ _ _ hk,qJ _ _ _ _ hk,qJ _ _ _ _ hk,qJ _ _ _ _ hk])
       . repeat (first|refine xQ ?_ (by simp) _ | exact hBw.out)
 .
  obtain⟨K,hK⟩:=qE (mchk M);rw[<- hK]at HCK h0;rw[qF (by rw[<- hK];exact h0)]at Ai;rw[<- hK]at Ai;have Dc:=qH Ai;clear HST HSP HTO Ai hK HQ;go_enter Tryz.func24,Tryz.ntmps24;go_wp2_with fail;obtain⟨W0,hW0⟩:=qE ((w.alloc (.cells #[.slice an NN cn,.slice af NF cf,.slice ax NX cx,.slice ap NP cp,.slice aS NS cs] 30)).alloc (.cells #[.slice none 0 0,.slice none 0 0,.slice none 0 0,.slice none 0 0,.slice none 0 0] 30));rw[<- hW0];have hB0:Bq w W0:=by rw[hW0];exact ((qI _ w).alloc (qB _) _).alloc (by simp) _
  have hX0:BX W0 w.heap.size (.slice an NN cn) (.slice af NF cf) (.slice ax NX cx) (.slice ap NP cp) (.slice aS NS cs):=by rw[hW0];exact⟨zm _ _ _,zn _ _ _⟩
  refine qD (HCK.out W0 hB0) ?_;rintro e w1⟨rfl,hb1⟩;have HB1:Hid (Bq w w1):=hB0.trans (hb1.mono hB0.size);have hX1:=BX.below hX0 hb1;obtain⟨y0,y1,y2,y3,y4,yf⟩:=A3 hX1.2;have yf0:=yf 0;have yf1:=yf 1;have yf2:=yf 2;have yf3:=yf 3;have yf4:=yf 4;clear hW0 hB0 hX0 hb1 hX1 HCK yf;go_wp2_with fail;(try simp only[Exit.inBlock,Exit.then])
  refine xA (v:=.tuple #[.agg #[.slice none 0 0,.slice none 0 0,.slice none 0 0,.slice none 0 0,.slice none 0 0],.slice none 0 0,.int .i64 K]) ?_ rfl ?_
  . rw[o7 rfl];go_simp
  . rw[Dc.out];exact⟨_,_,rfl,Z6.zero _ _,rnil,by repeat (first|refine xQ ?_ (by simp) _ | exact HB1.out)⟩
end Go.Proofs.YtllgglolcgdehaaGreatDoor
namespace Go.Gs
open Go.RowKit
def drF:List SFile:=[⟨[97],[98,32,120,10,97,32,121,10,99,32,122]⟩]
def drL:List SLine:=[⟨[[97],[97]],[⟨4,[],1⟩,⟨6,[],0⟩,⟨7,[],0⟩],[99]⟩,⟨[[99]],[⟨8,[],0⟩],[100]⟩]
theorem bw3:runS drF drL=([⟨[97],[98,32,120,10,97,32,121,10,99,32,122]⟩,⟨[99],[97,10,98,10,99,10]⟩,⟨[100],[51,10]⟩],0):=by
 have h1:fchk drF=0:=by decide
 have h2:schk drL=0:=by decide
 have h0:made ⟨4,[],1⟩ [[98,32,120],[97,32,121],[99,32,122],[98,32,120],[97,32,121],[99,32,122]]=[[98],[97],[99],[98],[97],[99]]:=by
  first
   | decide
   | rfl
 have h3:made ⟨6,[],0⟩ [[98],[97],[99],[98],[97],[99]]=[[97],[97],[98],[98],[99],[99]]:=by rw[aE7 _ rfl,af6 (I8 [[98],[97],[99],[98],[97],[99]]) [[97],[97],[98],[98],[99],[99]] ((F7 _).trans (by decide)) (S3 _) (by decide)]
 have h5:made ⟨7,[],0⟩ [[97],[97],[98],[98],[99],[99]]=[[97],[98],[99]]:=by
  first
   | decide
   | rfl
 have h4:made ⟨8,[],0⟩ [[97],[98],[99]]=[[51]]:=by rw[aE8 _ rfl];show [Lib.itoa 3]=_;unfold Lib.itoa;rw[qA (by decide),show (3:Int).toNat=3 from rfl,Lib.decDigits,dif_pos (by decide)];rfl
 unfold runS;rw[qF h1,qF h2];have e1:m9 drF ⟨[[97],[97]],[⟨4,[],1⟩,⟨6,[],0⟩,⟨7,[],0⟩],[99]⟩=([97,10,98,10,99,10],0):=by
  have g:gather drF [[97],[97]]=([98,32,120,10,97,32,121,10,99,32,122,10,98,32,120,10,97,32,121,10,99,32,122,10],0):=by decide
  unfold m9;rw[g];simp only[if_true];have l1:lines [98,32,120,10,97,32,121,10,99,32,122,10,98,32,120,10,97,32,121,10,99,32,122,10]=[[98,32,120],[97,32,121],[99,32,122],[98,32,120],[97,32,121],[99,32,122]]:=by decide
  have l2:lines (ended [[98],[97],[99],[98],[97],[99]])=[[98],[97],[99],[98],[97],[99]]:=by decide
  have l3:lines (ended [[97],[97],[98],[98],[99],[99]])=[[97],[97],[98],[98],[99],[99]]:=by decide
  unfold M8;simp only[zQ,List.foldl_nil];rw[l1,h0,l2,h3,l3,h5];rfl
 have p1:putS drF [99] [97,10,98,10,99,10]=([⟨[97],[98,32,120,10,97,32,121,10,99,32,122]⟩,⟨[99],[97,10,98,10,99,10]⟩],0):=by rfl
 have e2:m9 [⟨[97],[98,32,120,10,97,32,121,10,99,32,122]⟩,⟨[99],[97,10,98,10,99,10]⟩] ⟨[[99]],[⟨8,[],0⟩],[100]⟩=([51,10],0):=by
  have g:gather [⟨[97],[98,32,120,10,97,32,121,10,99,32,122]⟩,⟨[99],[97,10,98,10,99,10]⟩] [[99]]=([97,10,98,10,99,10],0):=by decide
  unfold m9;rw[g];simp only[if_true];have l:lines [97,10,98,10,99,10]=[[97],[98],[99]]:=by decide
  unfold M8;simp only[zQ,List.foldl_nil];rw[l,h4];rfl
 have p2:putS [⟨[97],[98,32,120,10,97,32,121,10,99,32,122]⟩,⟨[99],[97,10,98,10,99,10]⟩] [100] [51,10]=([⟨[97],[98,32,120,10,97,32,121,10,99,32,122]⟩,⟨[99],[97,10,98,10,99,10]⟩,⟨[100],[51,10]⟩],0):=by rfl
 unfold drL;rw[runL];simp only[e1,p1,if_true];rw[runL];simp only[e2,p2,if_true];rw[runL]
end Go.Gs
